/- Contract of the program's chapter 8: whether a signature is taken. -/
import Derived.Test.YtffidkoejlebeaaGreatDoorKyO
import Derived.Test.YtffidkoejlebeaaGreatDoorLvl
namespace Go.Proofs.YtffidkoejlebeaaGreatDoor
open Go.ChangeShapes Go.WideShapes Go.ChangeAt Go.RowKit
set_option maxRecDepth 100000
set_option linter.unusedVariables false
set_option linter.unusedSimpArgs false

theorem eqlK (a b c d : Int) (w : World) : (binOp BinOp.eql 45 (.agg #[.int .i64 a, .int .i64 b]) (.agg #[.int .i64 c, .int .i64 d])).run Tryz.prog w = .ok (.bool (decide (a = c ∧ b = d))) w := by
  by_cases h1 : a = c <;> by_cases h2 : b = d <;> simp [go_sem, h1, h2]

set_option maxHeartbeats 2000000 in
theorem implCheckSign_any (i x n root : Int) (a b pa : Option Addr) (ca cb cp : Nat) (sh ot p : List Int) (w : World) (hT : Tab w) (hs : Has w .i64 a sh.length sh) (ho : Has w .i64 b ot.length ot) (hp : Has w .i64 pa p.length p) (h1 : sh.length ≤ 1048576) (h2 : ot.length ≤ 1048576) (h3 : p.length ≤ 1048576) (hc : p.length ≤ cp) (hm : cp ≤ maxLen) :
    Calls Tryz.prog 49 #[.agg #[.int .i64 i, .slice a sh.length ca, .slice b ot.length cb], .int .i64 x, .int .i64 n, .slice pa p.length cp, .int .i64 root] w fun r w' => r = .returned (.bool (ckB i sh ot x n p root)) ∧ Below w.heap.size w w' := by
  obtain ⟨E, hE⟩ : ∃ E, E = w.alloc (.cells #[.int .i64 i, .slice a sh.length ca, .slice b ot.length cb] 36) := ⟨_, rfl⟩
  have zE : E.heap.size = w.heap.size + 1 := by rw [hE]; simp
  have B0 : Below w.heap.size w E := by rw [hE]; exact (Below.refl _ _).alloc (Nat.le_refl _) _
  have GE : Blk E w.heap.size #[.int .i64 i, .slice a sh.length ca, .slice b ot.length cb] 36 := by rw [hE]; exact Blk.new _ _ _
  have OO := implOpenSign_any i x a b ca cb sh ot E (hT.below B0 (Nat.le_refl _)) (hs.below B0 (Nat.le_refl _)) (ho.below B0 (Nat.le_refl _)) h1 h2
  have CL : Hid (∀ (u : World), Below w.heap.size w u → Calls Tryz.prog 83 #[.int .i64 (opV i sh ot x), .int .i64 i, .int .i64 n, .slice pa p.length cp] u fun r w' => r = .returned (.agg #[.int .i64 (clC (opV i sh ot x) i n p), .int .i64 (clV (opV i sh ot x) i n p)]) ∧ Below u.heap.size u w') := fun u hu => implClimb_any _ i n pa cp p u (hT.below hu (Nat.le_refl _)) (hp.below hu (Nat.le_refl _)) h3 hc hm
  have k0 : E.cell? ⟨w.heap.size, 0, none⟩ = some (.int .i64 i) := (GE.cell 0).trans rfl
  have k1 : E.cell? ⟨w.heap.size, 1, none⟩ = some (.slice a sh.length ca) := (GE.cell 1).trans rfl
  have k2 : E.cell? ⟨w.heap.size, 2, none⟩ = some (.slice b ot.length cb) := (GE.cell 2).trans rfl
  have EQ := eqlK
  by_cases h0 : opC i sh ot x = 0
  · have HQ : Hid (ckB i sh ot x n p root = decide (clC (opV i sh ot x) i n p = 0 ∧ clV (opV i sh ot x) i n p = root)) := by
      show _ = _
      unfold ckB
      exact decide_eq_decide.2 ⟨fun h => h.2, fun h => ⟨h0, h⟩⟩
    rw [h0] at OO
    generalize clC (opV i sh ot x) i n p = cc at *
    generalize clV (opV i sh ot x) i n p = cv at *
    generalize opV i sh ot x = ov at *
    clear hs ho hp h0 hT
    go_enter Tryz.func49, Tryz.ntmps49
    go_wp2_with fail
    simp only [← hE]
    clear hE
    refine OO.mono ?_
    rintro r u1 ⟨rfl, hb1⟩
    have B1 := B0.trans (hb1.mono B0.size)
    obtain ⟨E1, hE1⟩ : ∃ E1, E1 = u1.alloc (.cells #[.int .i64 0, .int .i64 ov] 45) := ⟨_, rfl⟩
    have G1 := GE.below hb1 GE.lt
    have B2 : Below w.heap.size w E1 := by rw [hE1]; exact B1.alloc B1.size _
    have CL1 := CL.out E1 B2
    clear k0
    have k0 : u1.cell? ⟨w.heap.size, 0, none⟩ = some (.int .i64 i) := (G1.cell 0).trans rfl
    have zlt := G1.lt
    clear OO k1 k2 hb1 CL G1 GE
    go_wp2_with fail
    simp only [← hE1]
    refine CL1.mono ?_
    rintro r u2 ⟨rfl, hb2⟩
    have B3 := B2.trans (hb2.mono B2.size)
    clear CL1 k0 hE1
    go_wp2
    go_ret
    refine ⟨ret_bool ?_, B3⟩
    rw [HQ.out]
    by_cases q1 : cc = 0 <;> by_cases q2 : cv = root <;> simp [q1, q2]
  · have HQ : Hid (ckB i sh ot x n p root = false) := decide_eq_false fun hh => h0 hh.1
    have h0' : (opC i sh ot x != 0) = true := by simpa using h0
    generalize opC i sh ot x = oc at *
    generalize opV i sh ot x = ov at *
    clear hs ho hp h0 CL hT
    go_enter Tryz.func49, Tryz.ntmps49
    go_wp2_with fail
    simp only [← hE]
    clear hE
    refine OO.mono ?_
    rintro r u1 ⟨rfl, hb1⟩
    have B1 := B0.trans (hb1.mono B0.size)
    clear OO k0 k1 k2 hb1 GE
    go_wp2
    go_ret
    exact ⟨ret_bool HQ.out.symm, B1.alloc B1.size _⟩

end Go.Proofs.YtffidkoejlebeaaGreatDoor
