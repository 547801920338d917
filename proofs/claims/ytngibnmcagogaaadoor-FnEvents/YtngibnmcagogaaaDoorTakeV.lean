/- Contracts of the program's chapter 3: an event taken from a reader. -/
import Derived.Test.YtngibnmcagogaaaDoorTakeE
namespace Go.Proofs.YtngibnmcagogaaaDoor
open Go.ChangeShapes Go.WideShapes Go.ChangeAt Go.RowKit
set_option maxRecDepth 100000
set_option linter.unusedVariables false
set_option linter.unusedSimpArgs false

theorem EvAt.only {w w' : World} {b p : Nat} {s v k x : Int} {a : Option Addr} {n c : Nat} (h : EvAt w b s v k x a n c) (hy : Only p w w') (hb : b ≠ p) : EvAt w' b s v k x a n c :=
  ⟨(hy.cell h.lt hb).trans h.c0, (hy.cell h.lt hb).trans h.c1, (hy.cell h.lt hb).trans h.c2, (hy.cell h.lt hb).trans h.c3, (hy.cell h.lt hb).trans h.c4, Nat.lt_of_lt_of_le h.lt hy.size⟩
def FrAt (w : World) (b : Nat) : Prop := w.frozen? ⟨b, 0, none⟩ = false ∧ w.frozen? ⟨b, 1, none⟩ = false ∧ w.frozen? ⟨b, 2, none⟩ = false ∧ w.frozen? ⟨b, 3, none⟩ = false ∧ w.frozen? ⟨b, 4, none⟩ = false
theorem FrAt.only {w w' : World} {b p : Nat} (h : FrAt w b) (hy : Only p w w') (hb : b ≠ p) (hlt : b < w.heap.size) : FrAt w' b :=
  ⟨(hy.frozen hlt hb).trans h.1, (hy.frozen hlt hb).trans h.2.1, (hy.frozen hlt hb).trans h.2.2.1, (hy.frozen hlt hb).trans h.2.2.2.1, (hy.frozen hlt hb).trans h.2.2.2.2⟩
theorem FrAt.set {w : World} {b : Nat} (h : FrAt w b) (ad : Addr) (u : Value) : FrAt (w.setCell ad u) b := by
  obtain ⟨h0, h1, h2, h3, h4⟩ := h
  exact ⟨by simpa [go_sem] using h0, by simpa [go_sem] using h1, by simpa [go_sem] using h2, by simpa [go_sem] using h3, by simpa [go_sem] using h4⟩
theorem FrAt.new (w : World) (x0 x1 x2 x3 x4 : Value) (T : Nat) : FrAt (w.alloc (.cells #[x0, x1, x2, x3, x4] T)) w.heap.size := by
  refine ⟨?_, ?_, ?_, ?_, ?_⟩ <;> simp [go_sem]
theorem FrAt.old {w : World} {b : Nat} (h : FrAt w b) (hb : b < w.heap.size) (o : Obj) : FrAt (w.alloc o) b := h.only (p := w.heap.size + 5) (Only.of_below ((Below.refl _ _).alloc (Nat.le_refl _) o)) (by omega) hb
theorem EvAt.old {w : World} {b : Nat} {s v k x : Int} {a : Option Addr} {n c : Nat} (h : EvAt w b s v k x a n c) (o : Obj) : EvAt (w.alloc o) b s v k x a n c := h.below ((Below.refl _ _).alloc (Nat.le_refl _) o)
theorem EvAt.put0 {w : World} {b : Nat} {s v k x y : Int} {a : Option Addr} {n c : Nat} (h : EvAt w b s v k x a n c) : EvAt (w.setCell ⟨b, 0, none⟩ (.int .i64 y)) b y v k x a n c :=
  ⟨by simp [go_sem, h.c0], by simp [go_sem, h.c1], by simp [go_sem, h.c2], by simp [go_sem, h.c3], by simp [go_sem, h.c4], by simpa using h.lt⟩
theorem EvAt.put1 {w : World} {b : Nat} {s v k x y : Int} {a : Option Addr} {n c : Nat} (h : EvAt w b s v k x a n c) : EvAt (w.setCell ⟨b, 1, none⟩ (.int .i64 y)) b s y k x a n c :=
  ⟨by simp [go_sem, h.c0], by simp [go_sem, h.c1], by simp [go_sem, h.c2], by simp [go_sem, h.c3], by simp [go_sem, h.c4], by simpa using h.lt⟩
theorem EvAt.put2 {w : World} {b : Nat} {s v k x y : Int} {a : Option Addr} {n c : Nat} (h : EvAt w b s v k x a n c) : EvAt (w.setCell ⟨b, 2, none⟩ (.int .i64 y)) b s v y x a n c :=
  ⟨by simp [go_sem, h.c0], by simp [go_sem, h.c1], by simp [go_sem, h.c2], by simp [go_sem, h.c3], by simp [go_sem, h.c4], by simpa using h.lt⟩
theorem EvAt.put3 {w : World} {b : Nat} {s v k x y : Int} {a : Option Addr} {n c : Nat} (h : EvAt w b s v k x a n c) : EvAt (w.setCell ⟨b, 3, none⟩ (.int .i64 y)) b s v k y a n c :=
  ⟨by simp [go_sem, h.c0], by simp [go_sem, h.c1], by simp [go_sem, h.c2], by simp [go_sem, h.c3], by simp [go_sem, h.c4], by simpa using h.lt⟩
theorem EvAt.put4 {w : World} {b : Nat} {s v k x : Int} {a a' : Option Addr} {n c n' c' : Nat} (h : EvAt w b s v k x a n c) : EvAt (w.setCell ⟨b, 4, none⟩ (.slice a' n' c')) b s v k x a' n' c' :=
  ⟨by simp [go_sem, h.c0], by simp [go_sem, h.c1], by simp [go_sem, h.c2], by simp [go_sem, h.c3], by simp [go_sem, h.c4], by simpa using h.lt⟩
theorem RdAt.set {w : World} {B p g o : Nat} {rs : List Int} {u : Int} {k : Bool} (h : RdAt w B p rs u k) (hg : g ≠ p) (hB : B ≤ g) (v : Value) : RdAt (w.setCell ⟨g, o, none⟩ v) B p rs u k := by
  obtain ⟨b, off, c, e1, e2, e3, e4⟩ := h.ex
  have hb := Below.heap_setCell w ⟨g, o, none⟩ v p (by show p ≠ g; omega)
  exact ⟨⟨b, off, c, (World.cell?_of_block (w := w) (a := ⟨p, 0, none⟩) hb).trans e1, e2, e3, e4.below ((Below.refl _ _).setCell (p := ⟨g, o, none⟩) hB _)⟩, (World.cell?_of_block (w := w) (a := ⟨p, 1, none⟩) hb).trans h.c1, (World.cell?_of_block (w := w) (a := ⟨p, 2, none⟩) hb).trans h.c2, (World.frozen?_of_block (w := w) (a := ⟨p, 0, none⟩) hb).trans h.f0, (World.frozen?_of_block (w := w) (a := ⟨p, 1, none⟩) hb).trans h.f1, (World.frozen?_of_block (w := w) (a := ⟨p, 2, none⟩) hb).trans h.f2, h.base, by simpa using h.lt⟩

set_option maxHeartbeats 4000000 in
theorem takeEvent_any (B p : Nat) (d0 d1 d2 d3 d4 d5 d6 : Rd) (m : Nat) (h1 : d1 = d0.next 1) (h2 : d2 = d1.next 2) (h3 : d3 = d2.next 1) (h4 : d4 = d3.next 8) (h5 : d5 = d4.next 1) (hm : d4.num 1 = (m : Int)) (hm' : m ≤ 255) (h6 : d6 = d5.next m) (w : World) (h : RdAt w B p d0.rs d0.u d0.k) (hl : d0.rs.length ≤ 1048576) (u0 : d0.u = 0) :
    Calls Tryd.prog 80 #[.pointer (some ⟨p, 0, none⟩)] w fun r w' => ∃ a' c', r = .returned (.agg #[.int .i64 (d0.num 1), .int .i64 (d1.num 2), .int .i64 (d2.num 1), .int .i64 (d3.num 8), .slice a' (d5.note m).length c']) ∧ w'.ownsRow w.heap.size 5 1 (.slice a' (d5.note m).length c') (d5.note m).length ((d5.note m).map (.int .u8)) ∧ RdAt w' B p d6.rs d6.u d6.k ∧ Only p w w' := by
  have bd : ∀ (d d' : Rd) (n : Nat), d' = d.next n → d.rs.length ≤ 1048576 → 0 ≤ d.u → d'.rs.length ≤ 1048576 ∧ 0 ≤ d'.u ∧ d'.u ≤ d.u + n := fun d d' n e hl h0 => by
    subst e
    have := Rd.next_len d n
    have := Rd.next_u d n h0
    omega
  have k1 := bd d0 d1 1 h1 hl (by omega)
  have k2 := bd d1 d2 2 h2 k1.1 k1.2.1
  have k3 := bd d2 d3 1 h3 k2.1 k2.2.1
  have k4 := bd d3 d4 8 h4 k3.1 k3.2.1
  have k5 := bd d4 d5 1 h5 k4.1 k4.2.1
  clear bd
  have hbs := h.base
  have hplt := h.lt
  have T0 : Hid (∀ x : World, RdAt x B p d0.rs d0.u d0.k → Calls Tryd.prog 94 #[.pointer (some ⟨p, 0, none⟩), .int .i64 1] x fun r w' => r = .returned (.int .i64 (d0.num 1)) ∧ RdAt w' B p d1.rs d1.u d1.k ∧ Only p x w') := fun x hx => by rw [h1]; exact takeNumber_any B p 1 d0 x hx (by omega) hl (by omega) (by omega)
  have T1 : Hid (∀ x : World, RdAt x B p d1.rs d1.u d1.k → Calls Tryd.prog 94 #[.pointer (some ⟨p, 0, none⟩), .int .i64 2] x fun r w' => r = .returned (.int .i64 (d1.num 2)) ∧ RdAt w' B p d2.rs d2.u d2.k ∧ Only p x w') := fun x hx => by rw [h2]; exact takeNumber_any B p 2 d1 x hx (by omega) (by omega) (by omega) (by omega)
  have T2 : Hid (∀ x : World, RdAt x B p d2.rs d2.u d2.k → Calls Tryd.prog 94 #[.pointer (some ⟨p, 0, none⟩), .int .i64 1] x fun r w' => r = .returned (.int .i64 (d2.num 1)) ∧ RdAt w' B p d3.rs d3.u d3.k ∧ Only p x w') := fun x hx => by rw [h3]; exact takeNumber_any B p 1 d2 x hx (by omega) (by omega) (by omega) (by omega)
  have T3 : Hid (∀ x : World, RdAt x B p d3.rs d3.u d3.k → Calls Tryd.prog 94 #[.pointer (some ⟨p, 0, none⟩), .int .i64 8] x fun r w' => r = .returned (.int .i64 (d3.num 8)) ∧ RdAt w' B p d4.rs d4.u d4.k ∧ Only p x w') := fun x hx => by rw [h4]; exact takeNumber_any B p 8 d3 x hx (by omega) (by omega) (by omega) (by omega)
  have T4 : Hid (∀ x : World, RdAt x B p d4.rs d4.u d4.k → Calls Tryd.prog 94 #[.pointer (some ⟨p, 0, none⟩), .int .i64 1] x fun r w' => r = .returned (.int .i64 m) ∧ RdAt w' B p d5.rs d5.u d5.k ∧ Only p x w') := fun x hx => by rw [h5, ← hm]; exact takeNumber_any B p 1 d4 x hx (by omega) (by omega) (by omega) (by omega)
  have T5 : Hid (∀ x : World, RdAt x B p d5.rs d5.u d5.k → Calls Tryd.prog 95 #[.pointer (some ⟨p, 0, none⟩), .int .i64 m] x fun r w' => ∃ a' c', r = .returned (.slice a' (d5.note m).length c') ∧ w'.ownsRow x.heap.size 5 1 (.slice a' (d5.note m).length c') (d5.note m).length ((d5.note m).map (.int .u8)) ∧ RdAt w' B p d6.rs d6.u d6.k ∧ Only p x w') := fun x hx => by rw [h6]; exact takeR_any B p m d5 x hx hm' (by omega) (by omega) (by omega)
  clear h1 h2 h3 h4 h5 h6 k1 k2 k3 k4 k5 hm
  generalize d0.num 1 = y0 at *
  generalize d1.num 2 = y1 at *
  generalize d2.num 1 = y2 at *
  generalize d3.num 8 = y3 at *
  generalize d5.note m = zz at *
  have E0 : EvAt ((w.alloc (.cells #[.int .i64 0, .int .i64 0, .int .i64 0, .int .i64 0, .slice none 0 0] 46)).alloc (.cells #[.int .i64 0, .int .i64 0, .int .i64 0, .int .i64 0, .slice none 0 0] 46)) (w.heap.size + 1) 0 0 0 0 none 0 0 := by simpa using EvAt.new (w.alloc (.cells #[.int .i64 0, .int .i64 0, .int .i64 0, .int .i64 0, .slice none 0 0] 46)) 0 0 0 0 none 0 0 46
  have F0 : FrAt ((w.alloc (.cells #[.int .i64 0, .int .i64 0, .int .i64 0, .int .i64 0, .slice none 0 0] 46)).alloc (.cells #[.int .i64 0, .int .i64 0, .int .i64 0, .int .i64 0, .slice none 0 0] 46)) (w.heap.size + 1) := by simpa using FrAt.new (w.alloc (.cells #[.int .i64 0, .int .i64 0, .int .i64 0, .int .i64 0, .slice none 0 0] 46)) (.int .i64 0) (.int .i64 0) (.int .i64 0) (.int .i64 0) (.slice none 0 0) 46
  have G0 : EvAt ((w.alloc (.cells #[.int .i64 0, .int .i64 0, .int .i64 0, .int .i64 0, .slice none 0 0] 46)).alloc (.cells #[.int .i64 0, .int .i64 0, .int .i64 0, .int .i64 0, .slice none 0 0] 46)) w.heap.size 0 0 0 0 none 0 0 := (EvAt.new w 0 0 0 0 none 0 0 46).old _
  have H0 : FrAt ((w.alloc (.cells #[.int .i64 0, .int .i64 0, .int .i64 0, .int .i64 0, .slice none 0 0] 46)).alloc (.cells #[.int .i64 0, .int .i64 0, .int .i64 0, .int .i64 0, .slice none 0 0] 46)) w.heap.size := (FrAt.new w (.int .i64 0) (.int .i64 0) (.int .i64 0) (.int .i64 0) (.slice none 0 0) 46).old (by simp) _
  have N0 : Only p w ((w.alloc (.cells #[.int .i64 0, .int .i64 0, .int .i64 0, .int .i64 0, .slice none 0 0] 46)).alloc (.cells #[.int .i64 0, .int .i64 0, .int .i64 0, .int .i64 0, .slice none 0 0] 46)) := ((Only.refl p w).alloc _).alloc _
  have R0 : RdAt ((w.alloc (.cells #[.int .i64 0, .int .i64 0, .int .i64 0, .int .i64 0, .slice none 0 0] 46)).alloc (.cells #[.int .i64 0, .int .i64 0, .int .i64 0, .int .i64 0, .slice none 0 0] 46)) B p d0.rs d0.u d0.k := (h.below ((Below.refl _ _).alloc (Nat.le_refl _) _)).below ((Below.refl _ _).alloc (Nat.le_refl _) _)
  have hq : w.heap.size + 1 ≠ p := by omega
  have hr : w.heap.size ≠ p := by omega
  have EH0 : Hid (EvAt ((w.alloc (.cells #[.int .i64 0, .int .i64 0, .int .i64 0, .int .i64 0, .slice none 0 0] 46)).alloc (.cells #[.int .i64 0, .int .i64 0, .int .i64 0, .int .i64 0, .slice none 0 0] 46)) (w.heap.size + 1) 0 0 0 0 none 0 0 ∧ FrAt ((w.alloc (.cells #[.int .i64 0, .int .i64 0, .int .i64 0, .int .i64 0, .slice none 0 0] 46)).alloc (.cells #[.int .i64 0, .int .i64 0, .int .i64 0, .int .i64 0, .slice none 0 0] 46)) (w.heap.size + 1) ∧ EvAt ((w.alloc (.cells #[.int .i64 0, .int .i64 0, .int .i64 0, .int .i64 0, .slice none 0 0] 46)).alloc (.cells #[.int .i64 0, .int .i64 0, .int .i64 0, .int .i64 0, .slice none 0 0] 46)) w.heap.size 0 0 0 0 none 0 0 ∧ FrAt ((w.alloc (.cells #[.int .i64 0, .int .i64 0, .int .i64 0, .int .i64 0, .slice none 0 0] 46)).alloc (.cells #[.int .i64 0, .int .i64 0, .int .i64 0, .int .i64 0, .slice none 0 0] 46)) w.heap.size) := ⟨E0, F0, G0, H0⟩
  clear E0 F0 G0 H0
  go_enter Tryd.func80, Tryd.ntmps80
  go_wp2_with fail
  refine (T0.out _ R0).mono ?_
  rintro r u1 ⟨rfl, R1, Y1⟩
  obtain ⟨E0, F0, G0, H0⟩ := EH0.out
  have E1 := E0.only Y1 hq
  have F1 := F0.only Y1 hq E0.lt
  have G1 := G0.only Y1 hr
  have H1 := H0.only Y1 hr G0.lt
  have N1 := N0.trans Y1
  clear E0 F0 G0 H0 N0 EH0 R0
  have e0 := E1.c0
  have f0 := F1.1
  have S1 : Hid (EvAt (u1.setCell ⟨w.heap.size + 1, 0, none⟩ (.int .i64 y0)) (w.heap.size + 1) y0 0 0 0 none 0 0 ∧ FrAt (u1.setCell ⟨w.heap.size + 1, 0, none⟩ (.int .i64 y0)) (w.heap.size + 1) ∧ EvAt (u1.setCell ⟨w.heap.size + 1, 0, none⟩ (.int .i64 y0)) w.heap.size 0 0 0 0 none 0 0 ∧ FrAt (u1.setCell ⟨w.heap.size + 1, 0, none⟩ (.int .i64 y0)) w.heap.size ∧ Only p w (u1.setCell ⟨w.heap.size + 1, 0, none⟩ (.int .i64 y0)) ∧ RdAt (u1.setCell ⟨w.heap.size + 1, 0, none⟩ (.int .i64 y0)) B p d1.rs d1.u d1.k) := ⟨E1.put0, F1.set _ _, G1.set (by omega) _, H1.set _ _, N1.storeNew (by omega) _, R1.set hq (by omega) _⟩
  clear E1 F1 G1 H1 N1 R1 Y1
  go_wp2_with fail
  generalize u1.setCell ⟨w.heap.size + 1, 0, none⟩ (.int .i64 y0) = v1 at S1 ⊢
  clear e0 f0
  refine (T1.out _ S1.out.2.2.2.2.2).mono ?_
  rintro r u2 ⟨rfl, R2, Y2⟩
  obtain ⟨E0, F0, G0, H0, N0, _⟩ := S1.out
  have E1 := E0.only Y2 hq
  have F1 := F0.only Y2 hq E0.lt
  have G1 := G0.only Y2 hr
  have H1 := H0.only Y2 hr G0.lt
  have N1 := N0.trans Y2
  clear E0 F0 G0 H0 N0 S1
  have e0 := E1.c1
  have f0 := F1.2.1
  have S2 : Hid (EvAt (u2.setCell ⟨w.heap.size + 1, 1, none⟩ (.int .i64 y1)) (w.heap.size + 1) y0 y1 0 0 none 0 0 ∧ FrAt (u2.setCell ⟨w.heap.size + 1, 1, none⟩ (.int .i64 y1)) (w.heap.size + 1) ∧ EvAt (u2.setCell ⟨w.heap.size + 1, 1, none⟩ (.int .i64 y1)) w.heap.size 0 0 0 0 none 0 0 ∧ FrAt (u2.setCell ⟨w.heap.size + 1, 1, none⟩ (.int .i64 y1)) w.heap.size ∧ Only p w (u2.setCell ⟨w.heap.size + 1, 1, none⟩ (.int .i64 y1)) ∧ RdAt (u2.setCell ⟨w.heap.size + 1, 1, none⟩ (.int .i64 y1)) B p d2.rs d2.u d2.k) := ⟨E1.put1, F1.set _ _, G1.set (by omega) _, H1.set _ _, N1.storeNew (by omega) _, R2.set hq (by omega) _⟩
  clear E1 F1 G1 H1 N1 R2 Y2
  go_wp2_with fail
  generalize u2.setCell ⟨w.heap.size + 1, 1, none⟩ (.int .i64 y1) = v2 at S2 ⊢
  clear e0 f0
  refine (T2.out _ S2.out.2.2.2.2.2).mono ?_
  rintro r u3 ⟨rfl, R3, Y3⟩
  obtain ⟨E0, F0, G0, H0, N0, _⟩ := S2.out
  have E1 := E0.only Y3 hq
  have F1 := F0.only Y3 hq E0.lt
  have G1 := G0.only Y3 hr
  have H1 := H0.only Y3 hr G0.lt
  have N1 := N0.trans Y3
  clear E0 F0 G0 H0 N0 S2
  have e0 := E1.c2
  have f0 := F1.2.2.1
  have S3 : Hid (EvAt (u3.setCell ⟨w.heap.size + 1, 2, none⟩ (.int .i64 y2)) (w.heap.size + 1) y0 y1 y2 0 none 0 0 ∧ FrAt (u3.setCell ⟨w.heap.size + 1, 2, none⟩ (.int .i64 y2)) (w.heap.size + 1) ∧ EvAt (u3.setCell ⟨w.heap.size + 1, 2, none⟩ (.int .i64 y2)) w.heap.size 0 0 0 0 none 0 0 ∧ FrAt (u3.setCell ⟨w.heap.size + 1, 2, none⟩ (.int .i64 y2)) w.heap.size ∧ Only p w (u3.setCell ⟨w.heap.size + 1, 2, none⟩ (.int .i64 y2)) ∧ RdAt (u3.setCell ⟨w.heap.size + 1, 2, none⟩ (.int .i64 y2)) B p d3.rs d3.u d3.k) := ⟨E1.put2, F1.set _ _, G1.set (by omega) _, H1.set _ _, N1.storeNew (by omega) _, R3.set hq (by omega) _⟩
  clear E1 F1 G1 H1 N1 R3 Y3
  go_wp2_with fail
  generalize u3.setCell ⟨w.heap.size + 1, 2, none⟩ (.int .i64 y2) = v3 at S3 ⊢
  clear e0 f0
  refine (T3.out _ S3.out.2.2.2.2.2).mono ?_
  rintro r u4 ⟨rfl, R4, Y4⟩
  obtain ⟨E0, F0, G0, H0, N0, _⟩ := S3.out
  have E1 := E0.only Y4 hq
  have F1 := F0.only Y4 hq E0.lt
  have G1 := G0.only Y4 hr
  have H1 := H0.only Y4 hr G0.lt
  have N1 := N0.trans Y4
  clear E0 F0 G0 H0 N0 S3
  have e0 := E1.c3
  have f0 := F1.2.2.2.1
  have S4 : Hid (EvAt (u4.setCell ⟨w.heap.size + 1, 3, none⟩ (.int .i64 y3)) (w.heap.size + 1) y0 y1 y2 y3 none 0 0 ∧ FrAt (u4.setCell ⟨w.heap.size + 1, 3, none⟩ (.int .i64 y3)) (w.heap.size + 1) ∧ EvAt (u4.setCell ⟨w.heap.size + 1, 3, none⟩ (.int .i64 y3)) w.heap.size 0 0 0 0 none 0 0 ∧ FrAt (u4.setCell ⟨w.heap.size + 1, 3, none⟩ (.int .i64 y3)) w.heap.size ∧ Only p w (u4.setCell ⟨w.heap.size + 1, 3, none⟩ (.int .i64 y3)) ∧ RdAt (u4.setCell ⟨w.heap.size + 1, 3, none⟩ (.int .i64 y3)) B p d4.rs d4.u d4.k) := ⟨E1.put3, F1.set _ _, G1.set (by omega) _, H1.set _ _, N1.storeNew (by omega) _, R4.set hq (by omega) _⟩
  clear E1 F1 G1 H1 N1 R4 Y4
  go_wp2_with fail
  generalize u4.setCell ⟨w.heap.size + 1, 3, none⟩ (.int .i64 y3) = v4 at S4 ⊢
  clear e0 f0
  refine (T4.out _ S4.out.2.2.2.2.2).mono ?_
  rintro r u5 ⟨rfl, R5, Y5⟩
  obtain ⟨E0, F0, G0, H0, N0, _⟩ := S4.out
  have E1 := E0.only Y5 hq
  have F1 := F0.only Y5 hq E0.lt
  have G1 := G0.only Y5 hr
  have H1 := H0.only Y5 hr G0.lt
  have N1 := N0.trans Y5
  clear E0 F0 G0 H0 N0 S4 Y5
  have z5 := E1.lt
  have S5 : Hid (EvAt u5 (w.heap.size + 1) y0 y1 y2 y3 none 0 0 ∧ FrAt u5 (w.heap.size + 1) ∧ EvAt u5 w.heap.size 0 0 0 0 none 0 0 ∧ FrAt u5 w.heap.size ∧ Only p w u5) := ⟨E1, F1, G1, H1, N1⟩
  clear E1 F1 G1 H1 N1
  go_wp2_with fail
  refine (T5.out _ R5).mono ?_
  rintro r u6 ⟨a6, c6, rfl, O6, R6, Y6⟩
  obtain ⟨E0, F0, G0, H0, N0⟩ := S5.out
  have E1 := E0.only Y6 hq
  have F1 := F0.only Y6 hq E0.lt
  have G1 := G0.only Y6 hr
  have H1 := H0.only Y6 hr G0.lt
  have N1 := N0.trans Y6
  have z6 := Y6.size
  clear E0 F0 G0 H0 N0 S5 Y6
  have e0 := E1.c0
  have e1 := E1.c1
  have e2 := E1.c2
  have e3 := E1.c3
  have e4 := E1.c4
  have f4 := F1.2.2.2.2
  obtain ⟨g0, g1, g2, g3, g4, _⟩ := G1
  obtain ⟨r0, r1, r2, r3, r4⟩ := H1
  have OO : Hid (_ ∧ _) := O6
  clear O6 E1 F1
  go_wp2
  refine bodyPost_ret (v := .agg #[.int .i64 y0, .int .i64 y1, .int .i64 y2, .int .i64 y3, .slice a6 zz.length c6]) (by simp [results, Tryd.results80, go_sem, g0, g1, g2, g3, g4]) rfl ⟨a6, c6, rfl, ?_, ?_, ?_⟩
  · refine own_mono (base := u5.heap.size) ?_ (by omega)
    iterate 6 (refine own_set ?_ (by omega) _)
    exact OO.out
  · refine RdAt.set (RdAt.set (RdAt.set (RdAt.set (RdAt.set (RdAt.set R6 hq (by omega) _) hr (by omega) _) hr (by omega) _) hr (by omega) _) hr (by omega) _) hr (by omega) _
  · exact Only.storeNew (Only.storeNew (Only.storeNew (Only.storeNew (Only.storeNew (Only.storeNew N1 (by omega) _) (by omega) _) (by omega) _) (by omega) _) (by omega) _) (by omega) _

end Go.Proofs.YtngibnmcagogaaaDoor
