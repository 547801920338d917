/- Contracts: the model holds numbers, and signed heads, against each other. Contracts: the program holds numbers, and signed heads, against each other. -/
import Derived.Test.YtffidkoejlebeaaGreatDoorHdF
namespace Go.Proofs.YtffidkoejlebeaaGreatDoor
open Go.ChangeShapes Go.WideShapes Go.ChangeAt Go.RowKit
set_option maxRecDepth 100000
set_option linter.unusedVariables false
set_option linter.unusedSimpArgs false

/-- Two rows begin alike. -/
structure AsFarS (xs ys : List Int) (k : Nat) : Prop where
  out : xs.take k = ys.take k

set_option maxHeartbeats 1000000 in
theorem sameInts_any (a b : Option Addr) (ca cb : Nat) (xs ys : List Int) (w : World) (ha : Has w .i64 a xs.length xs) (hb : Has w .i64 b ys.length ys) (hlen : xs.length ≤ 1048576) :
    Calls Tryz.prog 55 #[.slice a xs.length ca, .slice b ys.length cb] w fun r w' => r = .returned (.bool (decide (xs = ys))) ∧ Below w.heap.size w w' := by
  by_cases hl : xs.length = ys.length
  · have HL : Hid (xs.length = ys.length) := hl
    have hll : ((xs.length : Int) != (xs.length : Int)) = false := by simp
    have ha' := ha.2.2
    have hb' := hb.2.2
    rw [← hl] at hb' ⊢
    rcases ha' with h0 | ⟨b1, o1, rfl, _, hc1⟩
    · have h1 : xs = [] := List.eq_nil_of_length_eq_zero h0
      have h2 : ys = [] := List.eq_nil_of_length_eq_zero (by omega)
      subst h1 h2
      clear h0 hb' ha hb hl HL
      simp only [List.length_nil] at *
      go_enter Tryz.func55, Tryz.ntmps55
      go_wp2
      refine wp_loop_rounds 1 ?_
      rw [rounds_succ]
      go_wp2
      go_ret
      exact ⟨by simp, Below.refl _ _⟩
    · rcases hb' with h0 | ⟨b2, o2, rfl, _, hc2⟩
      · have h1 : xs = [] := List.eq_nil_of_length_eq_zero h0
        have h2 : ys = [] := List.eq_nil_of_length_eq_zero (by omega)
        subst h1 h2
        clear h0 hc1 ha hb hl HL
        simp only [List.length_nil] at *
        go_enter Tryz.func55, Tryz.ntmps55
        go_wp2
        refine wp_loop_rounds 1 ?_
        rw [rounds_succ]
        go_wp2
        go_ret
        exact ⟨by simp, Below.refl _ _⟩
      · clear ha hb hl
        go_enter Tryz.func55, Tryz.ntmps55
        go_wp2
        go_loopw [5] (fun i wr => ∃ k n : Nat, k ≤ xs.length ∧ i = .int .i64 k ∧ AsFarS xs ys k ∧ wr = w.drewN n) (fun i _ => xs.length - (intOf i).toNat)
        case atStart => exact ⟨0, 0, Nat.zero_le _, rfl, ⟨by simp⟩, rfl⟩
        case round =>
          obtain ⟨k, n, hk, rfl, HTK, rfl⟩ := hrel
          by_cases hlt : k < xs.length
          · have hlt2 : k < ys.length := by have := HL.out; omega
            have e1 : w.cell? ⟨b1, o1 + k, none⟩ = some (.int .i64 xs[k]) := by rw [hc1 k hlt]; simp [List.getD, hlt]
            have e2 : w.cell? ⟨b2, o2 + k, none⟩ = some (.int .i64 ys[k]) := by rw [hc2 k hlt]; simp [List.getD, hlt2]
            have hlt' : (k : Int) < (xs.length : Int) := by omega
            clear hc1 hc2
            by_cases heq : xs[k] = ys[k]
            · have e3 : (xs[k] != ys[k]) = false := by simpa using heq
              have HN : AsFarS xs ys (k + 1) := by
                refine ⟨?_⟩
                rw [List.take_succ_eq_append_getElem hlt, List.take_succ_eq_append_getElem hlt2, HTK.out, heq]
              rw [← heq] at e2
              clear heq e3
              have e3 : (xs[k] != xs[k]) = false := by simp
              generalize xs[k] = v1 at *
              go_wp2
              go_quiet (fail)
              go_wp2
              go_roundw
              case rel => exact ⟨k + 1, _, by omega, by go_num, HN, rfl⟩
              case measure => simp [intOf]; omega
            · have e3 : (xs[k] != ys[k]) = true := by simpa using heq
              have HD : Hid (decide (xs = ys) = false) := by
                show _ = _
                simp only [decide_eq_false_iff_not]
                intro h
                subst h
                exact heq rfl
              have e4 : decide (xs[k] = ys[k]) = false := by simpa using heq
              generalize xs[k] = v1 at *
              generalize ys[k] = v2 at *
              go_wp2
              go_quiet (fail)
              go_wp2
              go_ret
              exact ⟨by rw [HD.out]; rfl, below_drewN (below_drewN (Below.refl _ _) _) _⟩
          · go_wp2
            go_ret
            refine ⟨?_, below_drewN (Below.refl _ _) _⟩
            have h1 := HTK.out
            rw [List.take_of_length_le (by omega), List.take_of_length_le (by have := HL.out; omega)] at h1
            rw [decide_eq_true h1]
            rfl
  · have hd : decide (xs = ys) = false := by
      simp only [decide_eq_false_iff_not]
      intro h
      exact hl (by rw [h])
    have hll : ((xs.length : Int) != (ys.length : Int)) = true := by simp; omega
    rw [hd]
    clear ha hb hl hd
    go_enter Tryz.func55, Tryz.ntmps55
    go_wp2
    go_ret
    exact ⟨rfl, Below.refl _ _⟩


theorem eqHd (z r m k z' r' m' k' : Int) (w : World) : (binOp BinOp.eql 26 (.agg #[.int .i64 z, .int .i64 r, .int .i64 m, .int .i64 k]) (.agg #[.int .i64 z', .int .i64 r', .int .i64 m', .int .i64 k'])).run Tryz.prog w = .ok (.bool (decide (z = z' ∧ r = r' ∧ m = m' ∧ k = k'))) w := by
  by_cases h1 : z = z' <;> by_cases h2 : r = r' <;> by_cases h3 : m = m' <;> by_cases h4 : k = k' <;> simp [go_sem, h1, h2, h3, h4]

/-- Signed heads are the same. -/
def smB (z r m k i : Int) (sh ot p : List Int) (z' r' m' k' i' : Int) (sh' ot' p' : List Int) : Bool := decide (z = z' ∧ r = r' ∧ m = m' ∧ k = k') && (decide (i = i') && (decide (sh = sh') && (decide (ot = ot') && decide (p = p'))))

set_option maxHeartbeats 4000000 in
theorem specSameSigned_any (z r m k i z' r' m' k' i' : Int) (a b c a' b' c' : Option Addr) (ca cb cc ca' cb' cc' : Nat) (sh ot p sh' ot' p' : List Int) (w : World) (hs : Has w .i64 a sh.length sh) (ho : Has w .i64 b ot.length ot) (hp : Has w .i64 c p.length p) (hs' : Has w .i64 a' sh'.length sh') (ho' : Has w .i64 b' ot'.length ot') (hp' : Has w .i64 c' p'.length p') (h1 : sh.length ≤ 1048576) (h2 : ot.length ≤ 1048576) (h3 : p.length ≤ 1048576) :
    Calls Tryz.prog 19 #[.agg #[.int .i64 z, .int .i64 r, .int .i64 m, .int .i64 k, .int .i64 i, .slice a sh.length ca, .slice b ot.length cb, .slice c p.length cc], .agg #[.int .i64 z', .int .i64 r', .int .i64 m', .int .i64 k', .int .i64 i', .slice a' sh'.length ca', .slice b' ot'.length cb', .slice c' p'.length cc']] w fun e w' => e = .returned (.bool (smB z r m k i sh ot p z' r' m' k' i' sh' ot' p')) ∧ Below w.heap.size w w' := by
  obtain ⟨E, hE⟩ : ∃ E, E = (w.alloc (.cells #[.int .i64 z, .int .i64 r, .int .i64 m, .int .i64 k, .int .i64 i, .slice a sh.length ca, .slice b ot.length cb, .slice c p.length cc] 38)).alloc (.cells #[.int .i64 z', .int .i64 r', .int .i64 m', .int .i64 k', .int .i64 i', .slice a' sh'.length ca', .slice b' ot'.length cb', .slice c' p'.length cc'] 38) := ⟨_, rfl⟩
  have BE : Below w.heap.size w E := by rw [hE]; exact ((Below.refl _ _).alloc (Nat.le_refl _) _).alloc (by simp) _
  have R1 : Blk E w.heap.size #[.int .i64 z, .int .i64 r, .int .i64 m, .int .i64 k, .int .i64 i, .slice a sh.length ca, .slice b ot.length cb, .slice c p.length cc] 38 := by rw [hE]; exact (Blk.new _ _ _).below ((Below.refl _ _).alloc (Nat.le_refl _) _) (Blk.new _ _ _).lt
  have R2 : Blk E (w.heap.size + 1) #[.int .i64 z', .int .i64 r', .int .i64 m', .int .i64 k', .int .i64 i', .slice a' sh'.length ca', .slice b' ot'.length cb', .slice c' p'.length cc'] 38 := by
    have := Blk.new (w.alloc (.cells #[.int .i64 z, .int .i64 r, .int .i64 m, .int .i64 k, .int .i64 i, .slice a sh.length ca, .slice b ot.length cb, .slice c p.length cc] 38)) #[.int .i64 z', .int .i64 r', .int .i64 m', .int .i64 k', .int .i64 i', .slice a' sh'.length ca', .slice b' ot'.length cb', .slice c' p'.length cc'] 38
    rw [World.size_alloc] at this
    rw [hE]; exact this
  have OC : Hid (∀ u : World, Below E.heap.size E u → (u.cell? ⟨w.heap.size, 6, none⟩ = some (.slice b ot.length cb) ∧ u.cell? ⟨w.heap.size, 7, none⟩ = some (.slice c p.length cc)) ∧ (u.cell? ⟨w.heap.size + 1, 6, none⟩ = some (.slice b' ot'.length cb') ∧ u.cell? ⟨w.heap.size + 1, 7, none⟩ = some (.slice c' p'.length cc')) ∧ w.heap.size < u.heap.size ∧ w.heap.size + 1 < u.heap.size) := fun u h => by
    have S1 := R1.below h R1.lt
    have S2 := R2.below h R2.lt
    exact ⟨⟨(S1.cell 6).trans rfl, (S1.cell 7).trans rfl⟩, ⟨(S2.cell 6).trans rfl, (S2.cell 7).trans rfl⟩, S1.lt, S2.lt⟩
  have n0 : E.cell? ⟨w.heap.size, 0, none⟩ = some (.int .i64 z) := (R1.cell 0).trans rfl
  have n1 : E.cell? ⟨w.heap.size, 1, none⟩ = some (.int .i64 r) := (R1.cell 1).trans rfl
  have n2 : E.cell? ⟨w.heap.size, 2, none⟩ = some (.int .i64 m) := (R1.cell 2).trans rfl
  have n3 : E.cell? ⟨w.heap.size, 3, none⟩ = some (.int .i64 k) := (R1.cell 3).trans rfl
  have n4 : E.cell? ⟨w.heap.size, 4, none⟩ = some (.int .i64 i) := (R1.cell 4).trans rfl
  have n5 : E.cell? ⟨w.heap.size, 5, none⟩ = some (.slice a sh.length ca) := (R1.cell 5).trans rfl
  have o0 : E.cell? ⟨w.heap.size + 1, 0, none⟩ = some (.int .i64 z') := (R2.cell 0).trans rfl
  have o1 : E.cell? ⟨w.heap.size + 1, 1, none⟩ = some (.int .i64 r') := (R2.cell 1).trans rfl
  have o2 : E.cell? ⟨w.heap.size + 1, 2, none⟩ = some (.int .i64 m') := (R2.cell 2).trans rfl
  have o3 : E.cell? ⟨w.heap.size + 1, 3, none⟩ = some (.int .i64 k') := (R2.cell 3).trans rfl
  have o4 : E.cell? ⟨w.heap.size + 1, 4, none⟩ = some (.int .i64 i') := (R2.cell 4).trans rfl
  have o5 : E.cell? ⟨w.heap.size + 1, 5, none⟩ = some (.slice a' sh'.length ca') := (R2.cell 5).trans rfl
  have l1 := R1.lt
  have l2 := R2.lt
  have EH := eqHd z r m k z' r' m' k'
  have C1 : Hid (∀ u : World, Below E.heap.size E u → Calls Tryz.prog 55 #[.slice a sh.length ca, .slice a' sh'.length ca'] u fun r w' => r = .returned (.bool (decide (sh = sh'))) ∧ Below u.heap.size u w') := fun u h => sameInts_any a a' ca ca' sh sh' u (hs.below (BE.trans (h.mono BE.size)) (Nat.le_refl _)) (hs'.below (BE.trans (h.mono BE.size)) (Nat.le_refl _)) h1
  have C2 : Hid (∀ u : World, Below E.heap.size E u → Calls Tryz.prog 55 #[.slice b ot.length cb, .slice b' ot'.length cb'] u fun r w' => r = .returned (.bool (decide (ot = ot'))) ∧ Below u.heap.size u w') := fun u h => sameInts_any b b' cb cb' ot ot' u (ho.below (BE.trans (h.mono BE.size)) (Nat.le_refl _)) (ho'.below (BE.trans (h.mono BE.size)) (Nat.le_refl _)) h2
  have C3 : Hid (∀ u : World, Below E.heap.size E u → Calls Tryz.prog 55 #[.slice c p.length cc, .slice c' p'.length cc'] u fun r w' => r = .returned (.bool (decide (p = p'))) ∧ Below u.heap.size u w') := fun u h => sameInts_any c c' cc cc' p p' u (hp.below (BE.trans (h.mono BE.size)) (Nat.le_refl _)) (hp'.below (BE.trans (h.mono BE.size)) (Nat.le_refl _)) h3
  have HB : Hid (smB z r m k i sh ot p z' r' m' k' i' sh' ot' p' = (decide (z = z' ∧ r = r' ∧ m = m' ∧ k = k') && (decide (i = i') && (decide (sh = sh') && (decide (ot = ot') && decide (p = p')))))) := rfl
  have EI : (i == i') = decide (i = i') := by by_cases h : i = i' <;> simp [h]
  generalize smB z r m k i sh ot p z' r' m' k' i' sh' ot' p' = RR at *
  generalize decide (z = z' ∧ r = r' ∧ m = m' ∧ k = k') = d1 at *
  generalize decide (i = i') = d2 at *
  generalize decide (sh = sh') = d3 at *
  generalize decide (ot = ot') = d4 at *
  generalize decide (p = p') = d5 at *
  clear hs ho hp hs' ho' hp' R1 R2 h1 h2 h3
  cases d1 with
  | false =>
    have RB : Hid (RR = false) := by show _ = _; rw [HB.out]; rfl
    clear HB C1 C2 C3 OC
    go_enter Tryz.func19, Tryz.ntmps19
    go_wp2_with fail
    simp only [← hE]
    go_wp2
    go_ret
    exact ⟨ret_bool RB.out.symm, BE⟩
  | true =>
    cases d2 with
    | false =>
      have RB : Hid (RR = false) := by show _ = _; rw [HB.out]; rfl
      clear HB C1 C2 C3 OC
      go_enter Tryz.func19, Tryz.ntmps19
      go_wp2_with fail
      simp only [← hE]
      go_wp2
      go_ret
      exact ⟨ret_bool RB.out.symm, BE⟩
    | true =>
      cases d3 with
      | false =>
        have RB : Hid (RR = false) := by show _ = _; rw [HB.out]; rfl
        clear HB C2 C3 OC
        go_enter Tryz.func19, Tryz.ntmps19
        go_wp2_with fail
        simp only [← hE]
        refine (C1.out _ (Below.refl _ _)).mono ?_
        rintro e u1 ⟨rfl, hb1⟩
        go_wp2
        go_ret
        exact ⟨ret_bool RB.out.symm, BE.trans (hb1.mono BE.size)⟩
      | true =>
        cases d4 with
        | false =>
          have RB : Hid (RR = false) := by show _ = _; rw [HB.out]; rfl
          clear HB C3
          go_enter Tryz.func19, Tryz.ntmps19
          go_wp2_with fail
          simp only [← hE]
          refine (C1.out _ (Below.refl _ _)).mono ?_
          rintro e u1 ⟨rfl, hb1⟩
          obtain ⟨⟨f6, f7⟩, ⟨g6, g7⟩, k1, k2⟩ := OC.out _ hb1
          go_wp2_with fail
          refine (C2.out _ hb1).mono ?_
          rintro e u2 ⟨rfl, hb2⟩
          have b2 := hb1.trans (hb2.mono hb1.size)
          go_wp2
          go_ret
          exact ⟨ret_bool RB.out.symm, BE.trans (b2.mono BE.size)⟩
        | true =>
          have RB : Hid (RR = d5) := by show _ = _; rw [HB.out]; rfl
          clear HB
          go_enter Tryz.func19, Tryz.ntmps19
          go_wp2_with fail
          simp only [← hE]
          refine (C1.out _ (Below.refl _ _)).mono ?_
          rintro e u1 ⟨rfl, hb1⟩
          obtain ⟨⟨f6, f7⟩, ⟨g6, g7⟩, k1, k2⟩ := OC.out _ hb1
          go_wp2_with fail
          refine (C2.out _ hb1).mono ?_
          rintro e u2 ⟨rfl, hb2⟩
          have b2 := hb1.trans (hb2.mono hb1.size)
          clear f6 f7 g6 g7 k1 k2
          obtain ⟨⟨f6, f7⟩, ⟨g6, g7⟩, k1, k2⟩ := OC.out _ b2
          go_wp2_with fail
          refine (C3.out _ b2).mono ?_
          rintro e u3 ⟨rfl, hb3⟩
          have b3 := b2.trans (hb3.mono b2.size)
          go_wp2
          go_ret
          exact ⟨ret_bool RB.out.symm, BE.trans (b3.mono BE.size)⟩

end Go.Proofs.YtffidkoejlebeaaGreatDoor

namespace Go.Proofs.YtffidkoejlebeaaGreatDoor
open Go.ChangeShapes Go.WideShapes Go.ChangeAt Go.RowKit
set_option maxRecDepth 100000
set_option linter.unusedVariables false
set_option linter.unusedSimpArgs false

set_option maxHeartbeats 1000000 in
theorem slicesEqual_any (a b : Option Addr) (ca cb : Nat) (xs ys : List Int) (w : World) (ha : Has w .i64 a xs.length xs) (hb : Has w .i64 b ys.length ys) (hlen : xs.length ≤ 1048576) :
    Calls Tryz.prog 54 #[.slice a xs.length ca, .slice b ys.length cb] w fun r w' => r = .returned (.bool (decide (xs = ys))) ∧ Below w.heap.size w w' := by
  by_cases hl : xs.length = ys.length
  · have HL : Hid (xs.length = ys.length) := hl
    have hll : ((xs.length : Int) != (xs.length : Int)) = false := by simp
    have ha' := ha.2.2
    have hb' := hb.2.2
    rw [← hl] at hb' ⊢
    rcases ha' with h0 | ⟨b1, o1, rfl, _, hc1⟩
    · have h1 : xs = [] := List.eq_nil_of_length_eq_zero h0
      have h2 : ys = [] := List.eq_nil_of_length_eq_zero (by omega)
      subst h1 h2
      clear h0 hb' ha hb hl HL
      simp only [List.length_nil] at *
      go_enter Tryz.func54, Tryz.ntmps54
      go_wp2
      refine wp_loop_rounds 1 ?_
      rw [rounds_succ]
      go_wp2
      go_ret
      exact ⟨by simp, Below.refl _ _⟩
    · rcases hb' with h0 | ⟨b2, o2, rfl, _, hc2⟩
      · have h1 : xs = [] := List.eq_nil_of_length_eq_zero h0
        have h2 : ys = [] := List.eq_nil_of_length_eq_zero (by omega)
        subst h1 h2
        clear h0 hc1 ha hb hl HL
        simp only [List.length_nil] at *
        go_enter Tryz.func54, Tryz.ntmps54
        go_wp2
        refine wp_loop_rounds 1 ?_
        rw [rounds_succ]
        go_wp2
        go_ret
        exact ⟨by simp, Below.refl _ _⟩
      · clear ha hb hl
        go_enter Tryz.func54, Tryz.ntmps54
        go_wp2
        go_loopw [13] (fun i wr => ∃ k n : Nat, k ≤ xs.length ∧ i = .int .i64 k ∧ AsFarS xs ys k ∧ wr = w.drewN n) (fun i _ => xs.length - (intOf i).toNat)
        case atStart => exact ⟨0, 0, Nat.zero_le _, rfl, ⟨by simp⟩, rfl⟩
        case round =>
          obtain ⟨k, n, hk, rfl, HTK, rfl⟩ := hrel
          by_cases hlt : k < xs.length
          · have hlt2 : k < ys.length := by have := HL.out; omega
            have e1 : w.cell? ⟨b1, o1 + k, none⟩ = some (.int .i64 xs[k]) := by rw [hc1 k hlt]; simp [List.getD, hlt]
            have e2 : w.cell? ⟨b2, o2 + k, none⟩ = some (.int .i64 ys[k]) := by rw [hc2 k hlt]; simp [List.getD, hlt2]
            have hlt' : (k : Int) < (xs.length : Int) := by omega
            clear hc1 hc2
            by_cases heq : xs[k] = ys[k]
            · have e3 : (xs[k] != ys[k]) = false := by simpa using heq
              have HN : AsFarS xs ys (k + 1) := by
                refine ⟨?_⟩
                rw [List.take_succ_eq_append_getElem hlt, List.take_succ_eq_append_getElem hlt2, HTK.out, heq]
              rw [← heq] at e2
              clear heq e3
              have e3 : (xs[k] != xs[k]) = false := by simp
              generalize xs[k] = v1 at *
              go_wp2
              go_quiet (fail)
              go_wp2
              go_roundw
              case rel => exact ⟨k + 1, _, by omega, by go_num, HN, rfl⟩
              case measure => simp [intOf]; omega
            · have e3 : (xs[k] != ys[k]) = true := by simpa using heq
              have HD : Hid (decide (xs = ys) = false) := by
                show _ = _
                simp only [decide_eq_false_iff_not]
                intro h
                subst h
                exact heq rfl
              have e4 : decide (xs[k] = ys[k]) = false := by simpa using heq
              generalize xs[k] = v1 at *
              generalize ys[k] = v2 at *
              go_wp2
              go_quiet (fail)
              go_wp2
              go_ret
              exact ⟨by rw [HD.out]; rfl, below_drewN (below_drewN (Below.refl _ _) _) _⟩
          · go_wp2
            go_ret
            refine ⟨?_, below_drewN (Below.refl _ _) _⟩
            have h1 := HTK.out
            rw [List.take_of_length_le (by omega), List.take_of_length_le (by have := HL.out; omega)] at h1
            rw [decide_eq_true h1]
            rfl
  · have hd : decide (xs = ys) = false := by
      simp only [decide_eq_false_iff_not]
      intro h
      exact hl (by rw [h])
    have hll : ((xs.length : Int) != (ys.length : Int)) = true := by simp; omega
    rw [hd]
    clear ha hb hl hd
    go_enter Tryz.func54, Tryz.ntmps54
    go_wp2
    go_ret
    exact ⟨rfl, Below.refl _ _⟩

/-- Signatures are the same. -/
def sgB (i : Int) (sh ot : List Int) (i' : Int) (sh' ot' : List Int) : Bool := decide (i = i') && (decide (sh = sh') && decide (ot = ot'))

set_option maxHeartbeats 4000000 in
theorem isSame_any (i i' : Int) (a b a' b' : Option Addr) (ca cb ca' cb' : Nat) (sh ot sh' ot' : List Int) (w : World) (hs : Has w .i64 a sh.length sh) (ho : Has w .i64 b ot.length ot) (hs' : Has w .i64 a' sh'.length sh') (ho' : Has w .i64 b' ot'.length ot') (h1 : sh.length ≤ 1048576) (h2 : ot.length ≤ 1048576) :
    Calls Tryz.prog 53 #[.agg #[.int .i64 i, .slice a sh.length ca, .slice b ot.length cb], .agg #[.int .i64 i', .slice a' sh'.length ca', .slice b' ot'.length cb']] w fun e w' => e = .returned (.bool (sgB i sh ot i' sh' ot')) ∧ Below w.heap.size w w' := by
  obtain ⟨E, hE⟩ : ∃ E, E = (w.alloc (.cells #[.int .i64 i, .slice a sh.length ca, .slice b ot.length cb] 36)).alloc (.cells #[.int .i64 i', .slice a' sh'.length ca', .slice b' ot'.length cb'] 36) := ⟨_, rfl⟩
  have BE : Below w.heap.size w E := by rw [hE]; exact ((Below.refl _ _).alloc (Nat.le_refl _) _).alloc (by simp) _
  have R1 : Blk E w.heap.size #[.int .i64 i, .slice a sh.length ca, .slice b ot.length cb] 36 := by rw [hE]; exact (Blk.new _ _ _).below ((Below.refl _ _).alloc (Nat.le_refl _) _) (Blk.new _ _ _).lt
  have R2 : Blk E (w.heap.size + 1) #[.int .i64 i', .slice a' sh'.length ca', .slice b' ot'.length cb'] 36 := by
    have := Blk.new (w.alloc (.cells #[.int .i64 i, .slice a sh.length ca, .slice b ot.length cb] 36)) #[.int .i64 i', .slice a' sh'.length ca', .slice b' ot'.length cb'] 36
    rw [World.size_alloc] at this
    rw [hE]; exact this
  have OC : Hid (∀ u : World, Below E.heap.size E u → (u.cell? ⟨w.heap.size, 2, none⟩ = some (.slice b ot.length cb) ∧ u.cell? ⟨w.heap.size + 1, 2, none⟩ = some (.slice b' ot'.length cb')) ∧ w.heap.size < u.heap.size ∧ w.heap.size + 1 < u.heap.size) := fun u h => by
    have S1 := R1.below h R1.lt
    have S2 := R2.below h R2.lt
    exact ⟨⟨(S1.cell 2).trans rfl, (S2.cell 2).trans rfl⟩, S1.lt, S2.lt⟩
  have n0 : E.cell? ⟨w.heap.size, 0, none⟩ = some (.int .i64 i) := (R1.cell 0).trans rfl
  have n1 : E.cell? ⟨w.heap.size, 1, none⟩ = some (.slice a sh.length ca) := (R1.cell 1).trans rfl
  have o0 : E.cell? ⟨w.heap.size + 1, 0, none⟩ = some (.int .i64 i') := (R2.cell 0).trans rfl
  have o1 : E.cell? ⟨w.heap.size + 1, 1, none⟩ = some (.slice a' sh'.length ca') := (R2.cell 1).trans rfl
  have l1 := R1.lt
  have l2 := R2.lt
  have C1 : Hid (∀ u : World, Below E.heap.size E u → Calls Tryz.prog 54 #[.slice a sh.length ca, .slice a' sh'.length ca'] u fun r w' => r = .returned (.bool (decide (sh = sh'))) ∧ Below u.heap.size u w') := fun u h => slicesEqual_any a a' ca ca' sh sh' u (hs.below (BE.trans (h.mono BE.size)) (Nat.le_refl _)) (hs'.below (BE.trans (h.mono BE.size)) (Nat.le_refl _)) h1
  have C2 : Hid (∀ u : World, Below E.heap.size E u → Calls Tryz.prog 54 #[.slice b ot.length cb, .slice b' ot'.length cb'] u fun r w' => r = .returned (.bool (decide (ot = ot'))) ∧ Below u.heap.size u w') := fun u h => slicesEqual_any b b' cb cb' ot ot' u (ho.below (BE.trans (h.mono BE.size)) (Nat.le_refl _)) (ho'.below (BE.trans (h.mono BE.size)) (Nat.le_refl _)) h2
  have HB : Hid (sgB i sh ot i' sh' ot' = (decide (i = i') && (decide (sh = sh') && decide (ot = ot')))) := rfl
  have EI : (i == i') = decide (i = i') := by by_cases h : i = i' <;> simp [h]
  generalize sgB i sh ot i' sh' ot' = RR at *
  clear hs ho hs' ho' h1 h2 R1 R2
  generalize decide (i = i') = d1 at *
  generalize decide (sh = sh') = d2 at *
  generalize decide (ot = ot') = d3 at *
  cases d1 with
  | false =>
    have RB : Hid (RR = false) := by show _ = _; rw [HB.out]; rfl
    clear HB C1 C2 OC
    go_enter Tryz.func53, Tryz.ntmps53
    go_wp2_with fail
    simp only [← hE]
    go_wp2
    go_ret
    exact ⟨ret_bool RB.out.symm, BE⟩
  | true =>
    cases d2 with
    | false =>
      have RB : Hid (RR = false) := by show _ = _; rw [HB.out]; rfl
      clear HB C2 OC
      go_enter Tryz.func53, Tryz.ntmps53
      go_wp2_with fail
      simp only [← hE]
      refine (C1.out _ (Below.refl _ _)).mono ?_
      rintro e u1 ⟨rfl, hb1⟩
      go_wp2
      go_ret
      exact ⟨ret_bool RB.out.symm, BE.trans (hb1.mono BE.size)⟩
    | true =>
      have RB : Hid (RR = d3) := by show _ = _; rw [HB.out]; rfl
      clear HB
      go_enter Tryz.func53, Tryz.ntmps53
      go_wp2_with fail
      simp only [← hE]
      refine (C1.out _ (Below.refl _ _)).mono ?_
      rintro e u1 ⟨rfl, hb1⟩
      obtain ⟨⟨f2, g2⟩, k1, k2⟩ := OC.out _ hb1
      go_wp2_with fail
      refine (C2.out _ hb1).mono ?_
      rintro e u2 ⟨rfl, hb2⟩
      have b2 := hb1.trans (hb2.mono hb1.size)
      go_wp2
      go_ret
      exact ⟨ret_bool RB.out.symm, BE.trans (b2.mono BE.size)⟩

theorem smB_sg (z r m k i : Int) (sh ot p : List Int) (z' r' m' k' i' : Int) (sh' ot' p' : List Int) : smB z r m k i sh ot p z' r' m' k' i' sh' ot' p' = (decide (z = z' ∧ r = r' ∧ m = m' ∧ k = k') && (sgB i sh ot i' sh' ot' && decide (p = p'))) := by
  unfold smB sgB
  rw [Bool.and_assoc (decide (i = i')), Bool.and_assoc (decide (sh = sh'))]

set_option maxHeartbeats 4000000 in
theorem implSameSigned_any (z r m k i z' r' m' k' i' : Int) (a b c a' b' c' : Option Addr) (ca cb cc ca' cb' cc' : Nat) (sh ot p sh' ot' p' : List Int) (w : World) (hs : Has w .i64 a sh.length sh) (ho : Has w .i64 b ot.length ot) (hp : Has w .i64 c p.length p) (hs' : Has w .i64 a' sh'.length sh') (ho' : Has w .i64 b' ot'.length ot') (hp' : Has w .i64 c' p'.length p') (h1 : sh.length ≤ 1048576) (h2 : ot.length ≤ 1048576) (h3 : p.length ≤ 1048576) :
    Calls Tryz.prog 18 #[.agg #[.int .i64 z, .int .i64 r, .int .i64 m, .int .i64 k, .int .i64 i, .slice a sh.length ca, .slice b ot.length cb, .slice c p.length cc], .agg #[.int .i64 z', .int .i64 r', .int .i64 m', .int .i64 k', .int .i64 i', .slice a' sh'.length ca', .slice b' ot'.length cb', .slice c' p'.length cc']] w fun e w' => e = .returned (.bool (smB z r m k i sh ot p z' r' m' k' i' sh' ot' p')) ∧ Below w.heap.size w w' := by
  obtain ⟨E, hE⟩ : ∃ E, E = (w.alloc (.cells #[.int .i64 z, .int .i64 r, .int .i64 m, .int .i64 k, .int .i64 i, .slice a sh.length ca, .slice b ot.length cb, .slice c p.length cc] 38)).alloc (.cells #[.int .i64 z', .int .i64 r', .int .i64 m', .int .i64 k', .int .i64 i', .slice a' sh'.length ca', .slice b' ot'.length cb', .slice c' p'.length cc'] 38) := ⟨_, rfl⟩
  have BE : Below w.heap.size w E := by rw [hE]; exact ((Below.refl _ _).alloc (Nat.le_refl _) _).alloc (by simp) _
  have R1 : Blk E w.heap.size #[.int .i64 z, .int .i64 r, .int .i64 m, .int .i64 k, .int .i64 i, .slice a sh.length ca, .slice b ot.length cb, .slice c p.length cc] 38 := by rw [hE]; exact (Blk.new _ _ _).below ((Below.refl _ _).alloc (Nat.le_refl _) _) (Blk.new _ _ _).lt
  have R2 : Blk E (w.heap.size + 1) #[.int .i64 z', .int .i64 r', .int .i64 m', .int .i64 k', .int .i64 i', .slice a' sh'.length ca', .slice b' ot'.length cb', .slice c' p'.length cc'] 38 := by
    have := Blk.new (w.alloc (.cells #[.int .i64 z, .int .i64 r, .int .i64 m, .int .i64 k, .int .i64 i, .slice a sh.length ca, .slice b ot.length cb, .slice c p.length cc] 38)) #[.int .i64 z', .int .i64 r', .int .i64 m', .int .i64 k', .int .i64 i', .slice a' sh'.length ca', .slice b' ot'.length cb', .slice c' p'.length cc'] 38
    rw [World.size_alloc] at this
    rw [hE]; exact this
  have OC : Hid (∀ u : World, Below E.heap.size E u → (u.cell? ⟨w.heap.size, 7, none⟩ = some (.slice c p.length cc) ∧ u.cell? ⟨w.heap.size + 1, 7, none⟩ = some (.slice c' p'.length cc')) ∧ w.heap.size < u.heap.size ∧ w.heap.size + 1 < u.heap.size) := fun u h => by
    have S1 := R1.below h R1.lt
    have S2 := R2.below h R2.lt
    exact ⟨⟨(S1.cell 7).trans rfl, (S2.cell 7).trans rfl⟩, S1.lt, S2.lt⟩
  have n0 : E.cell? ⟨w.heap.size, 0, none⟩ = some (.int .i64 z) := (R1.cell 0).trans rfl
  have n1 : E.cell? ⟨w.heap.size, 1, none⟩ = some (.int .i64 r) := (R1.cell 1).trans rfl
  have n2 : E.cell? ⟨w.heap.size, 2, none⟩ = some (.int .i64 m) := (R1.cell 2).trans rfl
  have n3 : E.cell? ⟨w.heap.size, 3, none⟩ = some (.int .i64 k) := (R1.cell 3).trans rfl
  have n4 : E.cell? ⟨w.heap.size, 4, none⟩ = some (.int .i64 i) := (R1.cell 4).trans rfl
  have n5 : E.cell? ⟨w.heap.size, 5, none⟩ = some (.slice a sh.length ca) := (R1.cell 5).trans rfl
  have n6 : E.cell? ⟨w.heap.size, 6, none⟩ = some (.slice b ot.length cb) := (R1.cell 6).trans rfl
  have o0 : E.cell? ⟨w.heap.size + 1, 0, none⟩ = some (.int .i64 z') := (R2.cell 0).trans rfl
  have o1 : E.cell? ⟨w.heap.size + 1, 1, none⟩ = some (.int .i64 r') := (R2.cell 1).trans rfl
  have o2 : E.cell? ⟨w.heap.size + 1, 2, none⟩ = some (.int .i64 m') := (R2.cell 2).trans rfl
  have o3 : E.cell? ⟨w.heap.size + 1, 3, none⟩ = some (.int .i64 k') := (R2.cell 3).trans rfl
  have o4 : E.cell? ⟨w.heap.size + 1, 4, none⟩ = some (.int .i64 i') := (R2.cell 4).trans rfl
  have o5 : E.cell? ⟨w.heap.size + 1, 5, none⟩ = some (.slice a' sh'.length ca') := (R2.cell 5).trans rfl
  have o6 : E.cell? ⟨w.heap.size + 1, 6, none⟩ = some (.slice b' ot'.length cb') := (R2.cell 6).trans rfl
  have l1 := R1.lt
  have l2 := R2.lt
  have EH := eqHd z r m k z' r' m' k'
  have C1 : Hid (∀ u : World, Below E.heap.size E u → Calls Tryz.prog 53 #[.agg #[.int .i64 i, .slice a sh.length ca, .slice b ot.length cb], .agg #[.int .i64 i', .slice a' sh'.length ca', .slice b' ot'.length cb']] u fun r w' => r = .returned (.bool (sgB i sh ot i' sh' ot')) ∧ Below u.heap.size u w') := fun u h => isSame_any i i' a b a' b' ca cb ca' cb' sh ot sh' ot' u (hs.below (BE.trans (h.mono BE.size)) (Nat.le_refl _)) (ho.below (BE.trans (h.mono BE.size)) (Nat.le_refl _)) (hs'.below (BE.trans (h.mono BE.size)) (Nat.le_refl _)) (ho'.below (BE.trans (h.mono BE.size)) (Nat.le_refl _)) h1 h2
  have C2 : Hid (∀ u : World, Below E.heap.size E u → Calls Tryz.prog 54 #[.slice c p.length cc, .slice c' p'.length cc'] u fun r w' => r = .returned (.bool (decide (p = p'))) ∧ Below u.heap.size u w') := fun u h => slicesEqual_any c c' cc cc' p p' u (hp.below (BE.trans (h.mono BE.size)) (Nat.le_refl _)) (hp'.below (BE.trans (h.mono BE.size)) (Nat.le_refl _)) h3
  have HB : Hid (smB z r m k i sh ot p z' r' m' k' i' sh' ot' p' = (decide (z = z' ∧ r = r' ∧ m = m' ∧ k = k') && (sgB i sh ot i' sh' ot' && decide (p = p')))) := smB_sg z r m k i sh ot p z' r' m' k' i' sh' ot' p'
  generalize smB z r m k i sh ot p z' r' m' k' i' sh' ot' p' = RR at *
  generalize sgB i sh ot i' sh' ot' = d2 at *
  clear hs ho hp hs' ho' hp' h1 h2 h3 R1 R2
  generalize decide (z = z' ∧ r = r' ∧ m = m' ∧ k = k') = d1 at *
  generalize decide (p = p') = d3 at *
  cases d1 with
  | false =>
    have RB : Hid (RR = false) := by show _ = _; rw [HB.out]; rfl
    clear HB C1 C2 OC
    go_enter Tryz.func18, Tryz.ntmps18
    go_wp2_with fail
    simp only [← hE]
    go_wp2
    go_ret
    exact ⟨ret_bool RB.out.symm, BE⟩
  | true =>
    cases d2 with
    | false =>
      have RB : Hid (RR = false) := by show _ = _; rw [HB.out]; rfl
      clear HB C2 OC
      go_enter Tryz.func18, Tryz.ntmps18
      go_wp2_with fail
      simp only [← hE]
      refine (C1.out _ (Below.refl _ _)).mono ?_
      rintro e u1 ⟨rfl, hb1⟩
      go_wp2
      go_ret
      exact ⟨ret_bool RB.out.symm, BE.trans (hb1.mono BE.size)⟩
    | true =>
      have RB : Hid (RR = d3) := by show _ = _; rw [HB.out]; rfl
      clear HB
      go_enter Tryz.func18, Tryz.ntmps18
      go_wp2_with fail
      simp only [← hE]
      refine (C1.out _ (Below.refl _ _)).mono ?_
      rintro e u1 ⟨rfl, hb1⟩
      obtain ⟨⟨f2, g2⟩, k1, k2⟩ := OC.out _ hb1
      go_wp2_with fail
      refine (C2.out _ hb1).mono ?_
      rintro e u2 ⟨rfl, hb2⟩
      have b2 := hb1.trans (hb2.mono hb1.size)
      go_wp2
      go_ret
      exact ⟨ret_bool RB.out.symm, BE.trans (b2.mono BE.size)⟩

end Go.Proofs.YtffidkoejlebeaaGreatDoor
