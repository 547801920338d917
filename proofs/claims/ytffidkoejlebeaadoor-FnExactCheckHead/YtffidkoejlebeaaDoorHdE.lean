/- Contracts of the laws' own functions over signed heads: held against each other. -/
import Derived.Test.YtffidkoejlebeaaDoorHdT
namespace Go.Proofs.YtffidkoejlebeaaDoor
open Go.ChangeShapes Go.WideShapes Go.ChangeAt Go.RowKit
set_option maxRecDepth 100000
set_option linter.unusedVariables false
set_option linter.unusedSimpArgs false

set_option maxHeartbeats 2000000 in
theorem eqSigned_any (z r m k i : Int) (a b c a' b' c' : Option Addr) (ca cb cc ca' cb' cc' : Nat) (sh ot p : List Int) (w : World) (ha : Has w .i64 a sh.length sh) (hb : Has w .i64 b ot.length ot) (hc : Has w .i64 c p.length p) (ha' : Has w .i64 a' sh.length sh) (hb' : Has w .i64 b' ot.length ot) (hc' : Has w .i64 c' p.length p) (h1 : sh.length ≤ 1048576) (h2 : ot.length ≤ 1048576) (h3 : p.length ≤ 1048576) :
    Calls Tryd.prog 31 #[.agg #[.int .i64 z, .int .i64 r, .int .i64 m, .int .i64 k, .int .i64 i, .slice a sh.length ca, .slice b ot.length cb, .slice c p.length cc], .agg #[.int .i64 z, .int .i64 r, .int .i64 m, .int .i64 k, .int .i64 i, .slice a' sh.length ca', .slice b' ot.length cb', .slice c' p.length cc']] w fun e w' => e = .returned (.bool true) ∧ Below w.heap.size w w' := by
  obtain ⟨E, hE⟩ : ∃ E, E = (w.alloc (.cells #[.int .i64 z, .int .i64 r, .int .i64 m, .int .i64 k, .int .i64 i, .slice a sh.length ca, .slice b ot.length cb, .slice c p.length cc] 48)).alloc (.cells #[.int .i64 z, .int .i64 r, .int .i64 m, .int .i64 k, .int .i64 i, .slice a' sh.length ca', .slice b' ot.length cb', .slice c' p.length cc'] 48) := ⟨_, rfl⟩
  have BE : Below w.heap.size w E := by rw [hE]; exact ((Below.refl _ _).alloc (Nat.le_refl _) _).alloc (by simp) _
  have R1 : Blk E w.heap.size #[.int .i64 z, .int .i64 r, .int .i64 m, .int .i64 k, .int .i64 i, .slice a sh.length ca, .slice b ot.length cb, .slice c p.length cc] 48 := by rw [hE]; exact (Blk.new _ _ _).below ((Below.refl _ _).alloc (Nat.le_refl _) _) (Blk.new _ _ _).lt
  have R2 : Blk E (w.heap.size + 1) #[.int .i64 z, .int .i64 r, .int .i64 m, .int .i64 k, .int .i64 i, .slice a' sh.length ca', .slice b' ot.length cb', .slice c' p.length cc'] 48 := by
    have := Blk.new (w.alloc (.cells #[.int .i64 z, .int .i64 r, .int .i64 m, .int .i64 k, .int .i64 i, .slice a sh.length ca, .slice b ot.length cb, .slice c p.length cc] 48)) #[.int .i64 z, .int .i64 r, .int .i64 m, .int .i64 k, .int .i64 i, .slice a' sh.length ca', .slice b' ot.length cb', .slice c' p.length cc'] 48
    rw [World.size_alloc] at this
    rw [hE]; exact this
  have OC : Hid (∀ u : World, Below E.heap.size E u → (u.cell? ⟨w.heap.size, 4, none⟩ = some (.int .i64 i) ∧ u.cell? ⟨w.heap.size, 5, none⟩ = some (.slice a sh.length ca) ∧ u.cell? ⟨w.heap.size, 6, none⟩ = some (.slice b ot.length cb) ∧ u.cell? ⟨w.heap.size, 7, none⟩ = some (.slice c p.length cc)) ∧ (u.cell? ⟨w.heap.size + 1, 4, none⟩ = some (.int .i64 i) ∧ u.cell? ⟨w.heap.size + 1, 5, none⟩ = some (.slice a' sh.length ca') ∧ u.cell? ⟨w.heap.size + 1, 6, none⟩ = some (.slice b' ot.length cb') ∧ u.cell? ⟨w.heap.size + 1, 7, none⟩ = some (.slice c' p.length cc')) ∧ w.heap.size < u.heap.size ∧ w.heap.size + 1 < u.heap.size) := fun u h => by
    have S1 := R1.below h R1.lt
    have S2 := R2.below h R2.lt
    exact ⟨⟨(S1.cell 4).trans rfl, (S1.cell 5).trans rfl, (S1.cell 6).trans rfl, (S1.cell 7).trans rfl⟩, ⟨(S2.cell 4).trans rfl, (S2.cell 5).trans rfl, (S2.cell 6).trans rfl, (S2.cell 7).trans rfl⟩, S1.lt, S2.lt⟩
  have n0 : E.cell? ⟨w.heap.size, 0, none⟩ = some (.int .i64 z) := (R1.cell 0).trans rfl
  have n1 : E.cell? ⟨w.heap.size, 1, none⟩ = some (.int .i64 r) := (R1.cell 1).trans rfl
  have n2 : E.cell? ⟨w.heap.size, 2, none⟩ = some (.int .i64 m) := (R1.cell 2).trans rfl
  have n3 : E.cell? ⟨w.heap.size, 3, none⟩ = some (.int .i64 k) := (R1.cell 3).trans rfl
  have o0 : E.cell? ⟨w.heap.size + 1, 0, none⟩ = some (.int .i64 z) := (R2.cell 0).trans rfl
  have o1 : E.cell? ⟨w.heap.size + 1, 1, none⟩ = some (.int .i64 r) := (R2.cell 1).trans rfl
  have o2 : E.cell? ⟨w.heap.size + 1, 2, none⟩ = some (.int .i64 m) := (R2.cell 2).trans rfl
  have o3 : E.cell? ⟨w.heap.size + 1, 3, none⟩ = some (.int .i64 k) := (R2.cell 3).trans rfl
  have l1 := R1.lt
  have l2 := R2.lt
  have QS : Hid (∀ u : World, Below E.heap.size E u → Calls Tryd.prog 62 #[.agg #[.int .i64 i, .slice a sh.length ca, .slice b ot.length cb], .agg #[.int .i64 i, .slice a' sh.length ca', .slice b' ot.length cb']] u fun r w' => r = .returned (.bool true) ∧ Below u.heap.size u w') := fun u h => eqSign_any i a b a' b' ca cb ca' cb' sh ot u (ha.below (BE.trans (h.mono BE.size)) (Nat.le_refl _)) (hb.below (BE.trans (h.mono BE.size)) (Nat.le_refl _)) (ha'.below (BE.trans (h.mono BE.size)) (Nat.le_refl _)) (hb'.below (BE.trans (h.mono BE.size)) (Nat.le_refl _)) h1 h2
  have QP : Hid (∀ u : World, Below E.heap.size E u → Calls Tryd.prog 63 #[.slice c p.length cc, .slice c' p.length cc'] u fun r w' => r = .returned (.bool true) ∧ Below u.heap.size u w') := fun u h => eqInts_any c c' cc cc' p u (hc.below (BE.trans (h.mono BE.size)) (Nat.le_refl _)) (hc'.below (BE.trans (h.mono BE.size)) (Nat.le_refl _)) h3
  clear ha hb hc ha' hb' hc' R1 R2 h1 h2 h3
  go_enter Tryd.func31, Tryd.ntmps31
  go_wp2_with fail
  simp only [← hE]
  clear hE
  refine (eqHead_any z r m k E).mono ?_
  rintro e u1 ⟨rfl, hb1⟩
  obtain ⟨⟨f4, f5, f6, f7⟩, ⟨g4, g5, g6, g7⟩, k1, k2⟩ := OC.out _ hb1
  clear n0 n1 n2 n3 o0 o1 o2 o3 l1 l2
  go_wp2_with fail
  refine (QS.out _ hb1).mono ?_
  rintro e u2 ⟨rfl, hb2⟩
  have b2 := hb1.trans (hb2.mono hb1.size)
  clear f4 f5 f6 f7 g4 g5 g6 g7 k1 k2 hb1 hb2
  obtain ⟨⟨f4, f5, f6, f7⟩, ⟨g4, g5, g6, g7⟩, k1, k2⟩ := OC.out _ b2
  go_wp2_with fail
  refine (QP.out _ b2).mono ?_
  rintro e u3 ⟨rfl, hb3⟩
  have b3 := b2.trans (hb3.mono b2.size)
  go_wp2
  go_ret
  exact ⟨rfl, BE.trans (b3.mono BE.size)⟩

end Go.Proofs.YtffidkoejlebeaaDoor
