/- Contracts: the program takes a head from a reader. -/
import Derived.Test.YtffidkoejlebeaaGreatDoorTakeE
import Derived.Test.YtffidkoejlebeaaGreatDoorIHd
import Derived.Test.YtffidkoejlebeaaGreatDoorHdR
namespace Go.Proofs.YtffidkoejlebeaaGreatDoor
open Go.ChangeShapes Go.WideShapes Go.ChangeAt Go.RowKit
set_option maxRecDepth 100000
set_option linter.unusedVariables false
set_option linter.unusedSimpArgs false

theorem RdAt.setH {w : World} {B p g o : Nat} {rs : List Int} {u : Int} {k : Bool} (h : RdAt w B p rs u k) (hg : g ≠ p) (hB : B ≤ g) (v : Value) : RdAt (w.setCell ⟨g, o, none⟩ v) B p rs u k := by
  obtain ⟨b, off, c, e1, e2, e3, e4⟩ := h.ex
  have hb := Below.heap_setCell w ⟨g, o, none⟩ v p (by show p ≠ g; omega)
  exact ⟨⟨b, off, c, (World.cell?_of_block (w := w) (a := ⟨p, 0, none⟩) hb).trans e1, e2, e3, e4.below ((Below.refl _ _).setCell (p := ⟨g, o, none⟩) hB _)⟩, (World.cell?_of_block (w := w) (a := ⟨p, 1, none⟩) hb).trans h.c1, (World.cell?_of_block (w := w) (a := ⟨p, 2, none⟩) hb).trans h.c2, (World.frozen?_of_block (w := w) (a := ⟨p, 0, none⟩) hb).trans h.f0, (World.frozen?_of_block (w := w) (a := ⟨p, 1, none⟩) hb).trans h.f1, (World.frozen?_of_block (w := w) (a := ⟨p, 2, none⟩) hb).trans h.f2, h.base, by simpa using h.lt⟩
/-- While a head is taken: the reader, the head as far as it is laid, the answer that is not laid yet. -/
structure TkS (w0 : World) (B p : Nat) (d : Rd) (cs : Array Value) (W : World) : Prop where
  rd : RdAt W B p d.rs d.u d.k
  hd : Blk W (w0.heap.size + 1) cs 26
  rs : Blk W w0.heap.size #[.int .i64 0, .int .i64 0, .int .i64 0, .int .i64 0] 26
  on : Only p w0 W
theorem TkS.move {w0 W W' : World} {B p : Nat} {d d' : Rd} {cs : Array Value} (h : TkS w0 B p d cs W) (hp : p < w0.heap.size) (R : RdAt W' B p d'.rs d'.u d'.k) (Y : Only p W W') : TkS w0 B p d' cs W' :=
  ⟨R, (Y.block _ h.hd.lt (by omega)).trans h.hd, (Y.block _ h.rs.lt (by omega)).trans h.rs, h.on.trans Y⟩
theorem TkS.put {w0 W : World} {B p : Nat} {d : Rd} {cs : Array Value} (h : TkS w0 B p d cs W) (hp : p < w0.heap.size) (i : Nat) (v : Value) : TkS w0 B p d (cs.setIfInBounds i v) (W.setCell ⟨w0.heap.size + 1, i, none⟩ v) :=
  ⟨h.rd.setH (by omega) (by have := h.rd.base; omega) v, h.hd.set i v, h.rs.fr (M := fun k => k = w0.heap.size + 1) ((Fr.refl _ _).setCell _ _ rfl) (by omega), h.on.storeNew (by omega) v⟩

set_option maxHeartbeats 4000000 in
theorem takeHead_any (B p : Nat) (d0 d1 d2 d3 d4 d5 : Rd) (h1 : d1 = d0.next 1) (h2 : d2 = d1.next 1) (h3 : d3 = d2.next 2) (h4 : d4 = d3.next 2) (h5 : d5 = d4.next 1) (w : World) (h : RdAt w B p d0.rs d0.u d0.k) (hl : d0.rs.length ≤ 1048576) (u0 : d0.u = 0) :
    Calls Tryz.prog 33 #[.pointer (some ⟨p, 0, none⟩)] w fun r w' => r = .returned (.agg #[.int .i64 (d1.num 1), .int .i64 (d2.num 2), .int .i64 (d3.num 2), .int .i64 (d4.num 1)]) ∧ Only p w w' := by
  have bd : ∀ (d d' : Rd) (n : Nat), d' = d.next n → d.rs.length ≤ 1048576 → 0 ≤ d.u → d'.rs.length ≤ 1048576 ∧ 0 ≤ d'.u ∧ d'.u ≤ d.u + n := fun d d' n e hl h0 => by
    subst e
    have := Rd.next_len d n
    have := Rd.next_u d n h0
    omega
  have k1 := bd d0 d1 1 h1 hl (by omega)
  have k2 := bd d1 d2 1 h2 k1.1 k1.2.1
  have k3 := bd d2 d3 2 h3 k2.1 k2.2.1
  have k4 := bd d3 d4 2 h4 k3.1 k3.2.1
  clear bd
  have hplt := h.lt
  have T0 : Hid (∀ x : World, RdAt x B p d0.rs d0.u d0.k → Calls Tryz.prog 64 #[.pointer (some ⟨p, 0, none⟩), .int .i64 1] x fun r w' => r = .returned (.int .i64 (d0.num 1)) ∧ RdAt w' B p d1.rs d1.u d1.k ∧ Only p x w') := fun x hx => by rw [h1]; exact takeNumber_any B p 1 d0 x hx (by omega) hl (by omega) (by omega)
  have T1 : Hid (∀ x : World, RdAt x B p d1.rs d1.u d1.k → Calls Tryz.prog 64 #[.pointer (some ⟨p, 0, none⟩), .int .i64 1] x fun r w' => r = .returned (.int .i64 (d1.num 1)) ∧ RdAt w' B p d2.rs d2.u d2.k ∧ Only p x w') := fun x hx => by rw [h2]; exact takeNumber_any B p 1 d1 x hx (by omega) k1.1 k1.2.1 (by omega)
  have T2 : Hid (∀ x : World, RdAt x B p d2.rs d2.u d2.k → Calls Tryz.prog 64 #[.pointer (some ⟨p, 0, none⟩), .int .i64 2] x fun r w' => r = .returned (.int .i64 (d2.num 2)) ∧ RdAt w' B p d3.rs d3.u d3.k ∧ Only p x w') := fun x hx => by rw [h3]; exact takeNumber_any B p 2 d2 x hx (by omega) k2.1 k2.2.1 (by omega)
  have T3 : Hid (∀ x : World, RdAt x B p d3.rs d3.u d3.k → Calls Tryz.prog 64 #[.pointer (some ⟨p, 0, none⟩), .int .i64 2] x fun r w' => r = .returned (.int .i64 (d3.num 2)) ∧ RdAt w' B p d4.rs d4.u d4.k ∧ Only p x w') := fun x hx => by rw [h4]; exact takeNumber_any B p 2 d3 x hx (by omega) k3.1 k3.2.1 (by omega)
  have T4 : Hid (∀ x : World, RdAt x B p d4.rs d4.u d4.k → Calls Tryz.prog 64 #[.pointer (some ⟨p, 0, none⟩), .int .i64 1] x fun r w' => r = .returned (.int .i64 (d4.num 1)) ∧ RdAt w' B p d5.rs d5.u d5.k ∧ Only p x w') := fun x hx => by rw [h5]; exact takeNumber_any B p 1 d4 x hx (by omega) k4.1 k4.2.1 (by omega)
  clear h1 h2 h3 h4 h5 k1 k2 k3 k4
  generalize d0.num 1 = yy at *
  generalize d1.num 1 = y0 at *
  generalize d2.num 2 = y1 at *
  generalize d3.num 2 = y2 at *
  generalize d4.num 1 = y3 at *
  obtain ⟨E, hE⟩ : ∃ E, E = (w.alloc (.cells #[.int .i64 0, .int .i64 0, .int .i64 0, .int .i64 0] 26)).alloc (.cells #[.int .i64 0, .int .i64 0, .int .i64 0, .int .i64 0] 26) := ⟨_, rfl⟩
  have S0 : TkS w B p d0 #[.int .i64 0, .int .i64 0, .int .i64 0, .int .i64 0] E := by
    rw [hE]
    refine ⟨(h.below ((Below.refl _ _).alloc (Nat.le_refl _) _)).below ((Below.refl _ _).alloc (Nat.le_refl _) _), ?_, (Blk.new _ _ _).below ((Below.refl _ _).alloc (Nat.le_refl _) _) (Blk.new _ _ _).lt, ((Only.refl p w).alloc _).alloc _⟩
    have := Blk.new (w.alloc (.cells #[.int .i64 0, .int .i64 0, .int .i64 0, .int .i64 0] 26)) #[.int .i64 0, .int .i64 0, .int .i64 0, .int .i64 0] 26
    rw [World.size_alloc] at this
    exact this
  clear h
  go_enter Tryz.func33, Tryz.ntmps33
  go_wp2_with fail
  simp only [← hE]
  clear hE
  refine (T0.out _ S0.rd).mono ?_
  rintro r u1 ⟨rfl, R1, Y1⟩
  have S1 := S0.move hplt R1 Y1
  clear S0 R1 Y1
  go_wp2_with fail
  refine (T1.out _ S1.rd).mono ?_
  rintro r u2 ⟨rfl, R2, Y2⟩
  have S2 := S1.move hplt R2 Y2
  have c0 := S2.hd.cell 0
  have c1 := S2.hd.frozen 0
  simp at c0
  have P2 : Hid (_) := S2.put hplt 0 (.int .i64 y0)
  clear S1 R2 Y2 S2
  go_wp2_with fail
  generalize u2.setCell ⟨w.heap.size + 1, 0, none⟩ (.int .i64 y0) = v2 at P2 ⊢
  clear c0 c1
  refine (T2.out _ P2.out.rd).mono ?_
  rintro r u3 ⟨rfl, R3, Y3⟩
  have S3 := P2.out.move hplt R3 Y3
  have c0 := S3.hd.cell 1
  have c1 := S3.hd.frozen 1
  simp at c0
  have P3 : Hid (_) := S3.put hplt 1 (.int .i64 y1)
  clear P2 R3 Y3 S3
  go_wp2_with fail
  generalize u3.setCell ⟨w.heap.size + 1, 1, none⟩ (.int .i64 y1) = v3 at P3 ⊢
  clear c0 c1
  refine (T3.out _ P3.out.rd).mono ?_
  rintro r u4 ⟨rfl, R4, Y4⟩
  have S4 := P3.out.move hplt R4 Y4
  have c0 := S4.hd.cell 2
  have c1 := S4.hd.frozen 2
  simp at c0
  have P4 : Hid (_) := S4.put hplt 2 (.int .i64 y2)
  clear P3 R4 Y4 S4
  go_wp2_with fail
  generalize u4.setCell ⟨w.heap.size + 1, 2, none⟩ (.int .i64 y2) = v4 at P4 ⊢
  clear c0 c1
  refine (T4.out _ P4.out.rd).mono ?_
  rintro r u5 ⟨rfl, R5, Y5⟩
  have S5 := P4.out.move hplt R5 Y5
  have c0 := S5.hd.cell 0
  have c1 := S5.hd.cell 1
  have c2 := S5.hd.cell 2
  have c3 := S5.hd.cell 3
  have c4 := S5.hd.frozen 3
  simp at c0 c1 c2 c3
  have g0 := S5.rs.cell 0
  have g1 := S5.rs.cell 1
  have g2 := S5.rs.cell 2
  have g3 := S5.rs.cell 3
  have f0 := S5.rs.frozen 0
  have f1 := S5.rs.frozen 1
  have f2 := S5.rs.frozen 2
  have f3 := S5.rs.frozen 3
  simp at g0 g1 g2 g3
  have N5 : Hid (_) := S5.on
  clear P4 R5 Y5 S5
  go_wp2
  refine bodyPost_ret (v := .agg #[.int .i64 y0, .int .i64 y1, .int .i64 y2, .int .i64 y3]) (by simp [results, Tryz.results33, go_sem, g0, g1, g2, g3]) rfl ⟨rfl, ?_⟩
  repeat (first | exact N5.out | refine Only.storeNew ?_ (by first | exact Nat.le_refl _ | omega) _)

end Go.Proofs.YtffidkoejlebeaaGreatDoor
