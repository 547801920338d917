/- Contracts of the laws' own functions over signed heads: held against each other. Contracts of the laws' own functions over signed heads: marked, still there. -/
import Derived.Test.YtffidkoejlebeaaDoorHdT
import Derived.Test.YtffidkoejlebeaaDoorHdQ
import Derived.Test.YtffidkoejlebeaaDoorKyF
namespace Go.Proofs.YtffidkoejlebeaaDoor
open Go.ChangeShapes Go.WideShapes Go.ChangeAt Go.RowKit
set_option maxRecDepth 100000
set_option linter.unusedVariables false
set_option linter.unusedSimpArgs false

set_option maxHeartbeats 2000000 in
theorem eqSigned_any (z r m k i : Int) (a b c a' b' c' : Option Addr) (ca cb cc ca' cb' cc' : Nat) (sh ot p : List Int) (w : World) (ha : Has w .i64 a sh.length sh) (hb : Has w .i64 b ot.length ot) (hc : Has w .i64 c p.length p) (ha' : Has w .i64 a' sh.length sh) (hb' : Has w .i64 b' ot.length ot) (hc' : Has w .i64 c' p.length p) (h1 : sh.length ≤ 1048576) (h2 : ot.length ≤ 1048576) (h3 : p.length ≤ 1048576) :
    Calls Tryd.prog 31 #[.agg #[.int .i64 z, .int .i64 r, .int .i64 m, .int .i64 k, .int .i64 i, .slice a sh.length ca, .slice b ot.length cb, .slice c p.length cc], .agg #[.int .i64 z, .int .i64 r, .int .i64 m, .int .i64 k, .int .i64 i, .slice a' sh.length ca', .slice b' ot.length cb', .slice c' p.length cc']] w fun e w' => e = .returned (.bool true) ∧ Below w.heap.size w w' := by
  obtain ⟨E, hE⟩ : ∃ E, E = (w.alloc (.cells #[.int .i64 z, .int .i64 r, .int .i64 m, .int .i64 k, .int .i64 i, .slice a sh.length ca, .slice b ot.length cb, .slice c p.length cc] 48)).alloc (.cells #[.int .i64 z, .int .i64 r, .int .i64 m, .int .i64 k, .int .i64 i, .slice a' sh.length ca', .slice b' ot.length cb', .slice c' p.length cc'] 48) := ⟨_, rfl⟩
  have BE : Below w.heap.size w E := by rw [hE]; exact ((Below.refl _ _).alloc (Nat.le_refl _) _).alloc (by simp) _
  have R1 : Blk E w.heap.size #[.int .i64 z, .int .i64 r, .int .i64 m, .int .i64 k, .int .i64 i, .slice a sh.length ca, .slice b ot.length cb, .slice c p.length cc] 48 := by rw [hE]; exact (Blk.new _ _ _).below ((Below.refl _ _).alloc (Nat.le_refl _) _) (Blk.new _ _ _).lt
  have R2 : Blk E (w.heap.size + 1) #[.int .i64 z, .int .i64 r, .int .i64 m, .int .i64 k, .int .i64 i, .slice a' sh.length ca', .slice b' ot.length cb', .slice c' p.length cc'] 48 := by
    have := Blk.new (w.alloc (.cells #[.int .i64 z, .int .i64 r, .int .i64 m, .int .i64 k, .int .i64 i, .slice a sh.length ca, .slice b ot.length cb, .slice c p.length cc] 48)) #[.int .i64 z, .int .i64 r, .int .i64 m, .int .i64 k, .int .i64 i, .slice a' sh.length ca', .slice b' ot.length cb', .slice c' p.length cc'] 48
    rw [World.size_alloc] at this
    rw [hE]; exact this
  have OC : Hid (∀ u : World, Below E.heap.size E u → (u.cell? ⟨w.heap.size, 4, none⟩ = some (.int .i64 i) ∧ u.cell? ⟨w.heap.size, 5, none⟩ = some (.slice a sh.length ca) ∧ u.cell? ⟨w.heap.size, 6, none⟩ = some (.slice b ot.length cb) ∧ u.cell? ⟨w.heap.size, 7, none⟩ = some (.slice c p.length cc)) ∧ (u.cell? ⟨w.heap.size + 1, 4, none⟩ = some (.int .i64 i) ∧ u.cell? ⟨w.heap.size + 1, 5, none⟩ = some (.slice a' sh.length ca') ∧ u.cell? ⟨w.heap.size + 1, 6, none⟩ = some (.slice b' ot.length cb') ∧ u.cell? ⟨w.heap.size + 1, 7, none⟩ = some (.slice c' p.length cc')) ∧ w.heap.size < u.heap.size ∧ w.heap.size + 1 < u.heap.size) := fun u h => by
    have S1 := R1.below h R1.lt
    have S2 := R2.below h R2.lt
    exact ⟨⟨(S1.cell 4).trans rfl, (S1.cell 5).trans rfl, (S1.cell 6).trans rfl, (S1.cell 7).trans rfl⟩, ⟨(S2.cell 4).trans rfl, (S2.cell 5).trans rfl, (S2.cell 6).trans rfl, (S2.cell 7).trans rfl⟩, S1.lt, S2.lt⟩
  have n0 : E.cell? ⟨w.heap.size, 0, none⟩ = some (.int .i64 z) := (R1.cell 0).trans rfl
  have n1 : E.cell? ⟨w.heap.size, 1, none⟩ = some (.int .i64 r) := (R1.cell 1).trans rfl
  have n2 : E.cell? ⟨w.heap.size, 2, none⟩ = some (.int .i64 m) := (R1.cell 2).trans rfl
  have n3 : E.cell? ⟨w.heap.size, 3, none⟩ = some (.int .i64 k) := (R1.cell 3).trans rfl
  have o0 : E.cell? ⟨w.heap.size + 1, 0, none⟩ = some (.int .i64 z) := (R2.cell 0).trans rfl
  have o1 : E.cell? ⟨w.heap.size + 1, 1, none⟩ = some (.int .i64 r) := (R2.cell 1).trans rfl
  have o2 : E.cell? ⟨w.heap.size + 1, 2, none⟩ = some (.int .i64 m) := (R2.cell 2).trans rfl
  have o3 : E.cell? ⟨w.heap.size + 1, 3, none⟩ = some (.int .i64 k) := (R2.cell 3).trans rfl
  have l1 := R1.lt
  have l2 := R2.lt
  have QS : Hid (∀ u : World, Below E.heap.size E u → Calls Tryd.prog 62 #[.agg #[.int .i64 i, .slice a sh.length ca, .slice b ot.length cb], .agg #[.int .i64 i, .slice a' sh.length ca', .slice b' ot.length cb']] u fun r w' => r = .returned (.bool true) ∧ Below u.heap.size u w') := fun u h => eqSign_any i a b a' b' ca cb ca' cb' sh ot u (ha.below (BE.trans (h.mono BE.size)) (Nat.le_refl _)) (hb.below (BE.trans (h.mono BE.size)) (Nat.le_refl _)) (ha'.below (BE.trans (h.mono BE.size)) (Nat.le_refl _)) (hb'.below (BE.trans (h.mono BE.size)) (Nat.le_refl _)) h1 h2
  have QP : Hid (∀ u : World, Below E.heap.size E u → Calls Tryd.prog 63 #[.slice c p.length cc, .slice c' p.length cc'] u fun r w' => r = .returned (.bool true) ∧ Below u.heap.size u w') := fun u h => eqInts_any c c' cc cc' p u (hc.below (BE.trans (h.mono BE.size)) (Nat.le_refl _)) (hc'.below (BE.trans (h.mono BE.size)) (Nat.le_refl _)) h3
  clear ha hb hc ha' hb' hc' R1 R2 h1 h2 h3
  go_enter Tryd.func31, Tryd.ntmps31
  go_wp2_with fail
  simp only [← hE]
  clear hE
  refine (eqHead_any z r m k E).mono ?_
  rintro e u1 ⟨rfl, hb1⟩
  obtain ⟨⟨f4, f5, f6, f7⟩, ⟨g4, g5, g6, g7⟩, k1, k2⟩ := OC.out _ hb1
  clear n0 n1 n2 n3 o0 o1 o2 o3 l1 l2
  go_wp2_with fail
  refine (QS.out _ hb1).mono ?_
  rintro e u2 ⟨rfl, hb2⟩
  have b2 := hb1.trans (hb2.mono hb1.size)
  clear f4 f5 f6 f7 g4 g5 g6 g7 k1 k2 hb1 hb2
  obtain ⟨⟨f4, f5, f6, f7⟩, ⟨g4, g5, g6, g7⟩, k1, k2⟩ := OC.out _ b2
  go_wp2_with fail
  refine (QP.out _ b2).mono ?_
  rintro e u3 ⟨rfl, hb3⟩
  have b3 := b2.trans (hb3.mono b2.size)
  go_wp2
  go_ret
  exact ⟨rfl, BE.trans (b3.mono BE.size)⟩

end Go.Proofs.YtffidkoejlebeaaDoor

namespace Go.Proofs.YtffidkoejlebeaaDoor
open Go.ChangeShapes Go.WideShapes Go.ChangeAt Go.RowKit
set_option maxRecDepth 100000
set_option linter.unusedVariables false
set_option linter.unusedSimpArgs false

set_option maxHeartbeats 2000000 in
theorem eqSignedR_any (cd z r m k i : Int) (a b c a' b' c' : Option Addr) (ca cb cc ca' cb' cc' : Nat) (sh ot p : List Int) (w : World) (ha : Has w .i64 a sh.length sh) (hb : Has w .i64 b ot.length ot) (hc : Has w .i64 c p.length p) (ha' : Has w .i64 a' sh.length sh) (hb' : Has w .i64 b' ot.length ot) (hc' : Has w .i64 c' p.length p) (h1 : sh.length ≤ 1048576) (h2 : ot.length ≤ 1048576) (h3 : p.length ≤ 1048576) :
    Calls Tryd.prog 24 #[.agg #[.int .i64 cd, .int .i64 z, .int .i64 r, .int .i64 m, .int .i64 k, .int .i64 i, .slice a sh.length ca, .slice b ot.length cb, .slice c p.length cc], .agg #[.int .i64 cd, .int .i64 z, .int .i64 r, .int .i64 m, .int .i64 k, .int .i64 i, .slice a' sh.length ca', .slice b' ot.length cb', .slice c' p.length cc']] w fun e w' => e = .returned (.bool true) ∧ Below w.heap.size w w' := by
  have hcc : (cd != cd) = false := by simp
  have BE : Below w.heap.size w ((w.alloc (.cells #[.int .i64 cd, .int .i64 z, .int .i64 r, .int .i64 m, .int .i64 k, .int .i64 i, .slice a sh.length ca, .slice b ot.length cb, .slice c p.length cc] 50)).alloc (.cells #[.int .i64 cd, .int .i64 z, .int .i64 r, .int .i64 m, .int .i64 k, .int .i64 i, .slice a' sh.length ca', .slice b' ot.length cb', .slice c' p.length cc'] 50)) := ((Below.refl _ _).alloc (Nat.le_refl _) _).alloc (by simp) _
  have Q := eqSigned_any z r m k i a b c a' b' c' ca cb cc ca' cb' cc' sh ot p _ (ha.below BE (Nat.le_refl _)) (hb.below BE (Nat.le_refl _)) (hc.below BE (Nat.le_refl _)) (ha'.below BE (Nat.le_refl _)) (hb'.below BE (Nat.le_refl _)) (hc'.below BE (Nat.le_refl _)) h1 h2 h3
  clear ha hb hc ha' hb' hc'
  go_enter Tryd.func24, Tryd.ntmps24
  go_wp2_with fail
  refine Q.mono ?_
  rintro e u1 ⟨rfl, hb1⟩
  go_wp2
  go_ret
  exact ⟨rfl, BE.trans (hb1.mono (by simp; omega))⟩

set_option maxHeartbeats 2000000 in
theorem markSigned_any (z r m k i : Int) (base : Nat) (a1 a2 a3 : Option Addr) (c1 c2 c3 : Nat) (sh ot p : List Int) (q : Int) (w : World) (h : OwnH w base a1 a2 a3 c1 c2 c3 sh ot p) (hbase : base ≤ w.heap.size) (h1 : sh.length ≤ 1000) (h2 : ot.length ≤ 1000) (h3 : p.length ≤ 1000) (k0 : 0 ≤ q) (k1 : q ≤ 1048576) :
    Calls Tryd.prog 51 #[.agg #[.int .i64 z, .int .i64 r, .int .i64 m, .int .i64 k, .int .i64 i, .slice a1 sh.length c1, .slice a2 ot.length c2, .slice a3 p.length c3], .int .i64 q] w fun e w' => e = .returned (.int .i64 (q + sh.length + ot.length + p.length)) ∧ OwnH w' base a1 a2 a3 c1 c2 c3 (markN q sh.length) (markN (q + sh.length) ot.length) (markN (q + sh.length + ot.length) p.length) ∧ Fr (fun b => (∃ x, a1 = some x ∧ b = x.block) ∨ (∃ x, a2 = some x ∧ b = x.block) ∨ ∃ x, a3 = some x ∧ b = x.block) w w' := by
  have lt1 : ∀ x, a1 = some x → x.block < w.heap.size := fun x e => own_lt9 h.one x e
  have lt2 : ∀ x, a2 = some x → x.block < w.heap.size := fun x e => own_lt9 h.two x e
  have lt3 : ∀ x, a3 = some x → x.block < w.heap.size := fun x e => own_lt9 h.three x e
  obtain ⟨E, hE⟩ : ∃ E, E = w.alloc (.cells #[.int .i64 z, .int .i64 r, .int .i64 m, .int .i64 k, .int .i64 i, .slice a1 sh.length c1, .slice a2 ot.length c2, .slice a3 p.length c3] 48) := ⟨_, rfl⟩
  have BE : Below w.heap.size w E := by rw [hE]; exact (Below.refl _ _).alloc (Nat.le_refl _) _
  have RE : Blk E w.heap.size #[.int .i64 z, .int .i64 r, .int .i64 m, .int .i64 k, .int .i64 i, .slice a1 sh.length c1, .slice a2 ot.length c2, .slice a3 p.length c3] 48 := by rw [hE]; exact Blk.new _ _ _
  have H0 := h.below BE
  have FE : Fr (fun b => (∃ x, a1 = some x ∧ b = x.block) ∨ (∃ x, a2 = some x ∧ b = x.block) ∨ ∃ x, a3 = some x ∧ b = x.block) w E := Fr.of_below BE (Nat.le_refl _)
  have e4 : E.cell? ⟨w.heap.size, 4, none⟩ = some (.int .i64 i) := (RE.cell 4).trans rfl
  have e5 : E.cell? ⟨w.heap.size, 5, none⟩ = some (.slice a1 sh.length c1) := (RE.cell 5).trans rfl
  have e6 : E.cell? ⟨w.heap.size, 6, none⟩ = some (.slice a2 ot.length c2) := (RE.cell 6).trans rfl
  have el := RE.lt
  have MS := markSign_any i base a1 a2 c1 c2 sh ot q E ⟨H0.one, H0.two, H0.ap12⟩ (Nat.le_trans hbase BE.size) h1 h2 k0 k1
  have ap : Hid ((∀ x y, a1 = some x → a2 = some y → x.block ≠ y.block) ∧ (∀ x y, a1 = some x → a3 = some y → x.block ≠ y.block) ∧ (∀ x y, a2 = some x → a3 = some y → x.block ≠ y.block)) := ⟨h.ap12, h.ap13, h.ap23⟩
  have O3 : Hid (E.ownsRow base 2 1 (.slice a3 p.length c3) p.length (p.map (.int .i64))) := H0.three
  have FEH : Hid (Fr (fun b => (∃ x, a1 = some x ∧ b = x.block) ∨ (∃ x, a2 = some x ∧ b = x.block) ∨ ∃ x, a3 = some x ∧ b = x.block) w E) := FE
  clear h H0 FE
  go_enter Tryd.func51, Tryd.ntmps51
  go_wp2_with fail
  simp only [← hE]
  clear hE
  refine MS.mono ?_
  rintro e u1 ⟨rfl, G1, F1⟩
  have NB : ¬ ((∃ x, a1 = some x ∧ w.heap.size = x.block) ∨ ∃ x, a2 = some x ∧ w.heap.size = x.block) := by
    rintro (⟨x, e, q⟩ | ⟨x, e, q⟩)
    · have := lt1 x e; omega
    · have := lt2 x e; omega
  have R1 := RE.fr F1 NB
  have e7 : u1.cell? ⟨w.heap.size, 7, none⟩ = some (.slice a3 p.length c3) := (R1.cell 7).trans rfl
  have ul := R1.lt
  have O3' : Hid (u1.ownsRow base 2 1 (.slice a3 p.length c3) p.length (p.map (.int .i64))) := own_fr O3.out F1 (fun g hg => by
    rintro (⟨x, e, q⟩ | ⟨x, e, q⟩)
    · cases a3 with
      | none => simp [Value.ownBlock] at hg
      | some y =>
        have hy : y.block = g := by
          rcases O3.out.2 with ⟨e1, _⟩ | ⟨g', _, _, e1, _⟩
          · simp at e1
          · simp at e1; obtain ⟨rfl, _⟩ := e1; simpa [Value.ownBlock] using hg
        exact ap.out.2.1 x y e rfl (by omega)
    · cases a3 with
      | none => simp [Value.ownBlock] at hg
      | some y =>
        have hy : y.block = g := by
          rcases O3.out.2 with ⟨e1, _⟩ | ⟨g', _, _, e1, _⟩
          · simp at e1
          · simp at e1; obtain ⟨rfl, _⟩ := e1; simpa [Value.ownBlock] using hg
        exact ap.out.2.2 x y e rfl (by omega))
  have F1H : Hid (Fr (fun b => (∃ x, a1 = some x ∧ b = x.block) ∨ (∃ x, a2 = some x ∧ b = x.block) ∨ ∃ x, a3 = some x ∧ b = x.block) w u1) := FEH.out.trans F1 (fun j _ e => e.elim (fun h => .inl h) (fun h => .inr (.inl h)))
  have G1H : Hid (OwnG u1 base a1 a2 c1 c2 (markN q sh.length) (markN (q + sh.length) ot.length)) := G1
  have s1 := F1.size
  clear G1 F1 NB R1 RE e4 e5 e6
  go_wp2_with fail
  refine (markInt64S_any base a3 c3 (q + sh.length + ot.length) p _ O3'.out (by have := BE.size; omega) (by omega) (by omega)).mono ?_
  rintro e u2 ⟨rfl, O4, m2⟩
  have F2 : Fr (fun b => (∃ x, a1 = some x ∧ b = x.block) ∨ (∃ x, a2 = some x ∧ b = x.block) ∨ ∃ x, a3 = some x ∧ b = x.block) w u2 := F1H.out.marked m2 (fun ad had => .inr (.inr ⟨ad, had, rfl⟩))
  have P1 := own_blk9 G1H.out.one (w' := u2) (fun x e => m2.block _ (fun ad had => ap.out.2.1 x ad e had))
  have P2 := own_blk9 G1H.out.two (w' := u2) (fun x e => m2.block _ (fun ad had => ap.out.2.2 x ad e had))
  rw [markN_len] at P1 P2
  go_wp2
  go_ret
  refine ⟨rfl, ⟨?_, ?_, ?_, ap.out.1, ap.out.2.1, ap.out.2.2⟩, F2⟩
  · rw [markN_len]; exact P1
  · rw [markN_len]; exact P2
  · rw [markN_len]; exact O4

set_option maxHeartbeats 2000000 in
theorem markSignedR_any (cd z r m k i : Int) (base : Nat) (a1 a2 a3 : Option Addr) (c1 c2 c3 : Nat) (sh ot p : List Int) (q : Int) (w : World) (h : OwnH w base a1 a2 a3 c1 c2 c3 sh ot p) (hbase : base ≤ w.heap.size) (h1 : sh.length ≤ 1000) (h2 : ot.length ≤ 1000) (h3 : p.length ≤ 1000) (k0 : 0 ≤ q) (k1 : q ≤ 1048576) :
    Calls Tryd.prog 25 #[.agg #[.int .i64 cd, .int .i64 z, .int .i64 r, .int .i64 m, .int .i64 k, .int .i64 i, .slice a1 sh.length c1, .slice a2 ot.length c2, .slice a3 p.length c3], .int .i64 q] w fun e w' => e = .returned (.int .i64 (q + sh.length + ot.length + p.length)) ∧ OwnH w' base a1 a2 a3 c1 c2 c3 (markN q sh.length) (markN (q + sh.length) ot.length) (markN (q + sh.length + ot.length) p.length) ∧ Fr (fun b => (∃ x, a1 = some x ∧ b = x.block) ∨ (∃ x, a2 = some x ∧ b = x.block) ∨ ∃ x, a3 = some x ∧ b = x.block) w w' := by
  have BE : Below w.heap.size w (w.alloc (.cells #[.int .i64 cd, .int .i64 z, .int .i64 r, .int .i64 m, .int .i64 k, .int .i64 i, .slice a1 sh.length c1, .slice a2 ot.length c2, .slice a3 p.length c3] 50)) := (Below.refl _ _).alloc (Nat.le_refl _) _
  have F0 : Fr (fun b => (∃ x, a1 = some x ∧ b = x.block) ∨ (∃ x, a2 = some x ∧ b = x.block) ∨ ∃ x, a3 = some x ∧ b = x.block) w (w.alloc (.cells #[.int .i64 cd, .int .i64 z, .int .i64 r, .int .i64 m, .int .i64 k, .int .i64 i, .slice a1 sh.length c1, .slice a2 ot.length c2, .slice a3 p.length c3] 50)) := Fr.of_below BE (Nat.le_refl _)
  have MS := markSigned_any z r m k i base a1 a2 a3 c1 c2 c3 sh ot p q _ (h.below BE) (Nat.le_trans hbase BE.size) h1 h2 h3 k0 k1
  have MH : Hid (Calls Tryd.prog 51 #[.agg #[.int .i64 z, .int .i64 r, .int .i64 m, .int .i64 k, .int .i64 i, .slice a1 sh.length c1, .slice a2 ot.length c2, .slice a3 p.length c3], .int .i64 q] (w.alloc (.cells #[.int .i64 cd, .int .i64 z, .int .i64 r, .int .i64 m, .int .i64 k, .int .i64 i, .slice a1 sh.length c1, .slice a2 ot.length c2, .slice a3 p.length c3] 50)) fun e w' => e = .returned (.int .i64 (q + sh.length + ot.length + p.length)) ∧ OwnH w' base a1 a2 a3 c1 c2 c3 (markN q sh.length) (markN (q + sh.length) ot.length) (markN (q + sh.length + ot.length) p.length) ∧ Fr (fun b => (∃ x, a1 = some x ∧ b = x.block) ∨ (∃ x, a2 = some x ∧ b = x.block) ∨ ∃ x, a3 = some x ∧ b = x.block) (w.alloc (.cells #[.int .i64 cd, .int .i64 z, .int .i64 r, .int .i64 m, .int .i64 k, .int .i64 i, .slice a1 sh.length c1, .slice a2 ot.length c2, .slice a3 p.length c3] 50)) w') := MS
  have FH : Hid (Fr (fun b => (∃ x, a1 = some x ∧ b = x.block) ∨ (∃ x, a2 = some x ∧ b = x.block) ∨ ∃ x, a3 = some x ∧ b = x.block) w (w.alloc (.cells #[.int .i64 cd, .int .i64 z, .int .i64 r, .int .i64 m, .int .i64 k, .int .i64 i, .slice a1 sh.length c1, .slice a2 ot.length c2, .slice a3 p.length c3] 50))) := F0
  clear h MS F0
  go_enter Tryd.func25, Tryd.ntmps25
  go_wp2_with fail
  refine MH.out.mono ?_
  rintro e u1 ⟨rfl, O1, F1⟩
  go_wp2
  go_ret
  exact ⟨rfl, O1, FH.out.trans F1 (fun _ _ e => e)⟩

set_option maxHeartbeats 2000000 in
theorem heldSigned_any (z r m k i : Int) (a1 a2 a3 : Option Addr) (c1 c2 c3 n1 n2 n3 : Nat) (q : Int) (w : World) (h1 : Has w .i64 a1 (markN q n1).length (markN q n1)) (h2 : Has w .i64 a2 (markN (q + n1) n2).length (markN (q + n1) n2)) (h3 : Has w .i64 a3 (markN (q + n1 + n2) n3).length (markN (q + n1 + n2) n3)) (b1 : n1 ≤ 1000) (b2 : n2 ≤ 1000) (b3 : n3 ≤ 1000) (k0 : 0 ≤ q) (k1 : q ≤ 1048576) :
    Calls Tryd.prog 52 #[.agg #[.int .i64 z, .int .i64 r, .int .i64 m, .int .i64 k, .int .i64 i, .slice a1 n1 c1, .slice a2 n2 c2, .slice a3 n3 c3], .int .i64 q] w fun e w' => e = .returned (.int .i64 (q + n1 + n2 + n3)) ∧ Below w.heap.size w w' := by
  obtain ⟨E, hE⟩ : ∃ E, E = w.alloc (.cells #[.int .i64 z, .int .i64 r, .int .i64 m, .int .i64 k, .int .i64 i, .slice a1 n1 c1, .slice a2 n2 c2, .slice a3 n3 c3] 48) := ⟨_, rfl⟩
  have BE : Below w.heap.size w E := by rw [hE]; exact (Below.refl _ _).alloc (Nat.le_refl _) _
  have RE : Blk E w.heap.size #[.int .i64 z, .int .i64 r, .int .i64 m, .int .i64 k, .int .i64 i, .slice a1 n1 c1, .slice a2 n2 c2, .slice a3 n3 c3] 48 := by rw [hE]; exact Blk.new _ _ _
  have HS := heldSign_any i a1 a2 c1 c2 n1 n2 q E (h1.below BE (Nat.le_refl _)) (h2.below BE (Nat.le_refl _)) b1 b2 k0 k1
  have H3 : Hid (∀ u : World, Below w.heap.size w u → Calls Tryd.prog 87 #[.slice a3 n3 c3, .int .i64 (q + n1 + n2)] u fun r w' => r = .returned (.int .i64 (q + n1 + n2 + n3)) ∧ Below u.heap.size u w') := fun u hu => heldInt64S_any a3 c3 (q + n1 + n2) n3 u (h3.below hu (Nat.le_refl _)) (by omega) (by omega) (by omega)
  have e4 : E.cell? ⟨w.heap.size, 4, none⟩ = some (.int .i64 i) := (RE.cell 4).trans rfl
  have e5 : E.cell? ⟨w.heap.size, 5, none⟩ = some (.slice a1 n1 c1) := (RE.cell 5).trans rfl
  have e6 : E.cell? ⟨w.heap.size, 6, none⟩ = some (.slice a2 n2 c2) := (RE.cell 6).trans rfl
  have el := RE.lt
  have g1 : ¬ q + (n1 : Int) + n2 < 0 := by omega
  have g2 : ¬ q + (n1 : Int) + n2 + n3 < 0 := by omega
  clear h1 h2 h3
  go_enter Tryd.func52, Tryd.ntmps52
  go_wp2_with fail
  simp only [← hE]
  clear hE
  refine HS.mono ?_
  rintro e u1 ⟨rfl, hb1⟩
  have B1 := BE.trans (hb1.mono BE.size)
  have R1 := RE.below hb1 RE.lt
  have e7 : u1.cell? ⟨w.heap.size, 7, none⟩ = some (.slice a3 n3 c3) := (R1.cell 7).trans rfl
  have ul := R1.lt
  clear R1 RE e4 e5 e6 el hb1
  go_wp2_with fail
  refine (H3.out _ B1).mono ?_
  rintro e u2 ⟨rfl, hb2⟩
  go_wp2
  go_ret
  exact ⟨rfl, B1.trans (hb2.mono B1.size)⟩

set_option maxHeartbeats 2000000 in
theorem heldSignedR_any (cd z r m k i : Int) (a1 a2 a3 : Option Addr) (c1 c2 c3 n1 n2 n3 : Nat) (q : Int) (w : World) (h1 : Has w .i64 a1 (markN q n1).length (markN q n1)) (h2 : Has w .i64 a2 (markN (q + n1) n2).length (markN (q + n1) n2)) (h3 : Has w .i64 a3 (markN (q + n1 + n2) n3).length (markN (q + n1 + n2) n3)) (b1 : n1 ≤ 1000) (b2 : n2 ≤ 1000) (b3 : n3 ≤ 1000) (k0 : 0 ≤ q) (k1 : q ≤ 1048576) :
    Calls Tryd.prog 26 #[.agg #[.int .i64 cd, .int .i64 z, .int .i64 r, .int .i64 m, .int .i64 k, .int .i64 i, .slice a1 n1 c1, .slice a2 n2 c2, .slice a3 n3 c3], .int .i64 q] w fun e w' => e = .returned (.int .i64 (q + n1 + n2 + n3)) ∧ Below w.heap.size w w' := by
  have BE : Below w.heap.size w (w.alloc (.cells #[.int .i64 cd, .int .i64 z, .int .i64 r, .int .i64 m, .int .i64 k, .int .i64 i, .slice a1 n1 c1, .slice a2 n2 c2, .slice a3 n3 c3] 50)) := (Below.refl _ _).alloc (Nat.le_refl _) _
  have HS := heldSigned_any z r m k i a1 a2 a3 c1 c2 c3 n1 n2 n3 q _ (h1.below BE (Nat.le_refl _)) (h2.below BE (Nat.le_refl _)) (h3.below BE (Nat.le_refl _)) b1 b2 b3 k0 k1
  have g2 : ¬ q + (n1 : Int) + n2 + n3 < 0 := by omega
  clear h1 h2 h3
  go_enter Tryd.func26, Tryd.ntmps26
  go_wp2_with fail
  refine HS.mono ?_
  rintro e u1 ⟨rfl, hb1⟩
  go_wp2
  go_ret
  exact ⟨rfl, BE.trans (hb1.mono (by simp))⟩

theorem OwnH.ex {lo hi : Nat} {w u : World} {base : Nat} {a1 a2 a3 : Option Addr} {c1 c2 c3 : Nat} {xs ys zs : List Int} (h : OwnH w base a1 a2 a3 c1 c2 c3 xs ys zs) (k : Ex lo hi w u) (hb : hi ≤ base) : OwnH u base a1 a2 a3 c1 c2 c3 xs ys zs := ⟨own_ex h.one k hb, own_ex h.two k hb, own_ex h.three k hb, h.ap12, h.ap13, h.ap23⟩
theorem OwnH.blocks {w : World} {base : Nat} {a1 a2 a3 : Option Addr} {c1 c2 c3 : Nat} {xs ys zs : List Int} (h : OwnH w base a1 a2 a3 c1 c2 c3 xs ys zs) : ∀ b, ((∃ x, a1 = some x ∧ b = x.block) ∨ (∃ x, a2 = some x ∧ b = x.block) ∨ ∃ x, a3 = some x ∧ b = x.block) → base ≤ b ∧ b < w.heap.size := by
  rintro b (⟨x, e, rfl⟩ | ⟨x, e, rfl⟩ | ⟨x, e, rfl⟩)
  · exact ⟨own_base h.one x e, own_lt9 h.one x e⟩
  · exact ⟨own_base h.two x e, own_lt9 h.two x e⟩
  · exact ⟨own_base h.three x e, own_lt9 h.three x e⟩

end Go.Proofs.YtffidkoejlebeaaDoor
