/- Contracts of the model of chapter 8: SecretOf, PublicOf, KeySum, KeysRoot, SignSum, the fault of a signature, what it opens. Contracts of the model of chapter 8: KeySum, KeysRoot, SignSum, the fault of a signature, what opens it, whether it is taken. Contracts of the model of chapter 8: what opens a signature, whether it is taken. -/
import Derived.Test.YtffidkoejlebeaaGreatDoorKySg
import Derived.Test.YtffidkoejlebeaaGreatDoorPath4S
namespace Go.Proofs.YtffidkoejlebeaaGreatDoor
open Go.ChangeShapes Go.WideShapes Go.ChangeAt Go.RowKit
set_option maxRecDepth 100000
set_option linter.unusedVariables false
set_option linter.unusedSimpArgs false

theorem spec_set2 {w u : World} {B : Nat} (h : Below B w u) {p q : Addr} (hp : B ≤ p.block) (hq : B ≤ q.block) (x y : Value) : Below B w ((u.setCell p x).setCell q y) := (h.setCell hp _).setCell hq _

end Go.Proofs.YtffidkoejlebeaaGreatDoor

namespace Go.Proofs.YtffidkoejlebeaaGreatDoor
open Go.ChangeShapes Go.WideShapes Go.ChangeAt Go.RowKit
set_option maxRecDepth 100000
set_option linter.unusedVariables false
set_option linter.unusedSimpArgs false

end Go.Proofs.YtffidkoejlebeaaGreatDoor

namespace Go.Proofs.YtffidkoejlebeaaGreatDoor
open Go.ChangeShapes Go.WideShapes Go.ChangeAt Go.RowKit
set_option maxRecDepth 100000
set_option linter.unusedVariables false
set_option linter.unusedSimpArgs false

set_option maxHeartbeats 4000000 in
theorem l8Opened_any (g : Nat) (i x : Int) (a b : Option Addr) (ca cb : Nat) (sh ot : List Int) (w : World) (h : SgAt w g i a b ca cb sh ot) (h1 : sh.length = 16) (h2 : ot.length = 16) (hs : allS sh = true) (ho : allS ot = true) (hx : 0 ≤ x ∧ x ≤ 65520) :
    Calls Tryz.prog 105 #[.pointer (some ⟨g, 0, none⟩), .int .i64 x] w fun r w' => r = .returned (.int .i64 (keyS (opW x sh ot (List.range 16)))) ∧ Below w.heap.size w w' := by
  obtain ⟨i0, hi, hz0, hz1, hz2⟩ := info_parts info64
  have hown0 := empty_ownN w
  obtain ⟨sb, so, rfl, hsb, hsc⟩ : ∃ p off, a = some ⟨p, off, none⟩ ∧ p < w.heap.size ∧ ∀ i, i < sh.length → w.cell? ⟨p, off + i, none⟩ = some (.int .i64 (sh.getD i 0)) := by
    rcases h.s.2.2 with h0 | hh
    · omega
    · exact hh
  obtain ⟨ob, oo, rfl, hob, hoc⟩ : ∃ p off, b = some ⟨p, off, none⟩ ∧ p < w.heap.size ∧ ∀ i, i < ot.length → w.cell? ⟨p, off + i, none⟩ = some (.int .i64 (ot.getD i 0)) := by
    rcases h.o.2.2 with h0 | hh
    · omega
    · exact hh
  have k1 : w.cell? ⟨g, 1, none⟩ = some (.slice (some ⟨sb, so, none⟩) 16 ca) := (h.v.cell 1).trans (by rw [← h1]; rfl)
  have k2 : w.cell? ⟨g, 2, none⟩ = some (.slice (some ⟨ob, oo, none⟩) 16 cb) := (h.v.cell 2).trans (by rw [← h2]; rfl)
  have hg := h.v.lt
  have CV : Hid (∀ (wx : World) (n : Nat), Below w.heap.size w wx → n < 16 → wx.cell? ⟨g, 1, none⟩ = some (.slice (some ⟨sb, so, none⟩) 16 ca) ∧ wx.cell? ⟨g, 2, none⟩ = some (.slice (some ⟨ob, oo, none⟩) 16 cb) ∧ wx.cell? ⟨sb, so + n, none⟩ = some (.int .i64 (sh.getD n 0)) ∧ wx.cell? ⟨ob, oo + n, none⟩ = some (.int .i64 (ot.getD n 0)) ∧ g < wx.heap.size) := fun wx n hb hn =>
    ⟨(hb.cell (p := ⟨g, 1, none⟩) hg).trans k1, (hb.cell (p := ⟨g, 2, none⟩) hg).trans k2, (hb.cell (p := ⟨sb, so + n, none⟩) hsb).trans (hsc n (by omega)), (hb.cell (p := ⟨ob, oo + n, none⟩) hob).trans (hoc n (by omega)), Nat.lt_of_lt_of_le hg hb.size⟩
  have BD : Hid (∀ n, (0 ≤ sh.getD n 0 ∧ sh.getD n 0 ≤ 65520) ∧ 0 ≤ ot.getD n 0 ∧ ot.getD n 0 ≤ 65520) := fun n => ⟨getD_all hs n, getD_all ho n⟩
  have OP : Hid (∀ (y : Int) (u : World), 0 ≤ y ∧ y ≤ 65520 → Calls Tryz.prog 101 #[.int .i64 y] u fun r w' => r = .returned (.int .i64 (opnV y)) ∧ Below u.heap.size u w') := fun y u hy => l8Open_any y u hy.1 (by omega)
  have BT : Hid (∀ (n : Nat) (u : World), n < 16 → Calls Tryz.prog 99 #[.int .i64 x, .int .i64 n] u fun r w' => r = .returned (.int .i64 (bitV x n)) ∧ w' = u) := fun n u h => l8Bit_any x n u hx h
  have SU : Hid (∀ n, opW x sh ot (List.range (n + 1)) = opW x sh ot (List.range n) ++ (if bitV x n = 0 then [opnV (sh.getD n 0), ot.getD n 0] else [ot.getD n 0, opnV (sh.getD n 0)])) := fun n => opW_succ x sh ot n
  have LN : Hid (∀ n, (opW x sh ot (List.range n)).length = 2 * n) := fun n => by rw [opW_len, List.length_range]
  have KS : Hid (∀ (p : Option Addr) (c : Nat) (u : World), Has u .i64 p (opW x sh ot (List.range 16)).length (opW x sh ot (List.range 16)) → Calls Tryz.prog 73 #[.slice p (opW x sh ot (List.range 16)).length c] u fun r w' => r = .returned (.int .i64 (keyS (opW x sh ot (List.range 16)))) ∧ Below u.heap.size u w') := fun p c u hu => l8KeySum_any p c _ u hu (by rw [LN.out]; omega) (by rw [LN.out]; omega) (opW_all ho _)
  have WF : Hid (∀ y ∈ opW x sh ot (List.range 16), (Lit.int .i64 y).wf = true) := allS_wf (opW_all ho _)
  clear h k1 k2 hsc hoc hs ho h1 h2 hsb hob hg
  go_enter Tryz.func105, Tryz.ntmps105
  go_wp2
  go_loopw [5, 6] (fun v b wr => ∃ n : Nat, n ≤ 16 ∧ b = .int .i64 n ∧ OwnN wr w.heap.size v (opW x sh ot (List.range n)) ∧ Below w.heap.size w wr) (fun _ b _ => 16 - (intOf b).toNat)
  case atStart => exact ⟨0, Nat.zero_le _, rfl, hown0, (Below.refl _ _).alloc (Nat.le_refl _) _⟩
  case round =>
    clear hown0
    obtain ⟨n, hn, rfl, hO, hbel⟩ := hrel
    obtain ⟨va, vc, rfl, _, _⟩ := own_shape1 hO
    have zr := hbel.size
    by_cases hlt : n < 16
    · have hlt' : (n : Int) < 16 := by omega
      have hl := LN.out n
      have zl : (opW x sh ot (List.range n)).length ≤ 32 := by omega
      clear hl
      have HSU := SU.out n
      have BTn := BT.out n
      have b01 := bitV_01 x n
      obtain ⟨bd1, bd2⟩ := BD.out n
      obtain ⟨c1, c2, c3, c4, c5⟩ := CV.out wr n hbel hlt
      have CW : Hid (∀ wx : World, Below w.heap.size w wx → wx.cell? ⟨g, 1, none⟩ = some (.slice (some ⟨sb, so, none⟩) 16 ca) ∧ wx.cell? ⟨g, 2, none⟩ = some (.slice (some ⟨ob, oo, none⟩) 16 cb) ∧ wx.cell? ⟨sb, so + n, none⟩ = some (.int .i64 (sh.getD n 0)) ∧ wx.cell? ⟨ob, oo + n, none⟩ = some (.int .i64 (ot.getD n 0)) ∧ g < wx.heap.size) := fun wx hb => CV.out wx n hb hlt
      have O1 := OP.out (sh.getD n 0)
      generalize sh.getD n 0 = y at *
      generalize ot.getD n 0 = z at *
      generalize opnV y = yo at *
      generalize bitV x n = d at *
      have HS2 : Hid (_) := HSU
      clear HSU
      generalize opW x sh ot (List.range n) = zs at *
      go_wp2_with fail
      refine (O1 _ bd1).mono ?_
      rintro r u1 ⟨rfl, hb1⟩
      have B1 := hbel.trans (hb1.mono zr)
      replace hO := own_below hO hb1
      clear c1 c2 c3 c4 c5 hb1
      obtain ⟨c1, c2, c3, c4, c5⟩ := CW.out u1 B1
      have z1 := B1.size
      go_wp2_with fail
      refine (BTn _ hlt).mono ?_
      rintro r u ⟨rfl, hu⟩; have hu2 := hu.symm; subst hu2; clear hu
      clear c1 c2 c3 c4 c5
      rcases b01 with hd | hd
      · subst hd
        rw [if_pos rfl] at HS2
        go_wp2_with (at_builtin; refine wpList_append_own _ rfl _ _ 34 rfl w.heap.size 2 i0 (.int .i64 0) 1 8 Tryz.underlying34 hi hz0 hz1 hz2 rfl (by decide) _ (zs.length) _ rfl (hO.alloc _) ⟨u1.heap.size, 0, none⟩ 2 2 [.int .i64 yo, .int .i64 z] rfl (by simp) (lit_new _ [.int .i64 yo, .int .i64 z] 2) (by intro u hu; simp at hu; rcases hu with rfl | rfl <;> rfl) (by unfold maxLen; omega) (by omega) (by simp; omega) ?_; intro v5 w5 hn5 hg5 hx5)
        have B5 : Below w.heap.size w w5 := (B1.alloc z1 _).trans ((Below.refl _ _).grown hg5 (by simp; omega) (fun k hk => (hO.lt k hk).1))
        have O5 : OwnN w5 w.heap.size v5 (opW x sh ot (List.range (n + 1))) := by
          rw [HS2.out]
          show World.ownsRow w5 _ _ 1 v5 (zs ++ [yo, z]).length _
          rw [List.length_append]
          simpa using hn5
        clear hn5 hg5 hx5 hO
        go_wp2
        go_roundw
        case rel => exact ⟨n + 1, by omega, by go_num, O5, B5⟩
        case measure => simp [intOf]; omega
      · subst hd
        rw [if_neg (by decide)] at HS2
        go_wp2_with (at_builtin; refine wpList_append_own _ rfl _ _ 34 rfl w.heap.size 2 i0 (.int .i64 0) 1 8 Tryz.underlying34 hi hz0 hz1 hz2 rfl (by decide) _ (zs.length) _ rfl (hO.alloc _) ⟨u1.heap.size, 0, none⟩ 2 2 [.int .i64 z, .int .i64 yo] rfl (by simp) (lit_new _ [.int .i64 z, .int .i64 yo] 2) (by intro u hu; simp at hu; rcases hu with rfl | rfl <;> rfl) (by unfold maxLen; omega) (by omega) (by simp; omega) ?_; intro v5 w5 hn5 hg5 hx5)
        have B5 : Below w.heap.size w w5 := (B1.alloc z1 _).trans ((Below.refl _ _).grown hg5 (by simp; omega) (fun k hk => (hO.lt k hk).1))
        have O5 : OwnN w5 w.heap.size v5 (opW x sh ot (List.range (n + 1))) := by
          rw [HS2.out]
          show World.ownsRow w5 _ _ 1 v5 (zs ++ [z, yo]).length _
          rw [List.length_append]
          simpa using hn5
        clear hn5 hg5 hx5 hO
        go_wp2
        go_roundw
        case rel => exact ⟨n + 1, by omega, by go_num, O5, B5⟩
        case measure => simp [intOf]; omega
    · obtain rfl : n = 16 := by omega
      clear hlt
      have H1 := KS.out va vc wr (has_of_own hO WF.out)
      clear hO SU LN CV BD OP BT WF KS
      go_wp2_with fail
      refine H1.mono ?_
      rintro r u1 ⟨rfl, hb1⟩
      go_wp2
      go_ret
      exact ⟨rfl, hbel.trans (hb1.mono zr)⟩

set_option maxHeartbeats 2000000 in
theorem specOpenSign_any (i x : Int) (a b : Option Addr) (ca cb : Nat) (sh ot : List Int) (w : World) (hs : Has w .i64 a sh.length sh) (ho : Has w .i64 b ot.length ot) (h1 : sh.length ≤ 1048576) (h2 : ot.length ≤ 1048576) :
    Calls Tryz.prog 86 #[.agg #[.int .i64 i, .slice a sh.length ca, .slice b ot.length cb], .int .i64 x] w fun r w' => r = .returned (.agg #[.int .i64 (opC i sh ot x), .int .i64 (opV i sh ot x)]) ∧ Below w.heap.size w w' := by
  obtain ⟨E, hE⟩ : ∃ E, E = (w.alloc (.cells #[.int .i64 i, .slice a sh.length ca, .slice b ot.length cb] 36)).alloc (.cells #[.int .i64 0, .int .i64 0] 45) := ⟨_, rfl⟩
  have zE : E.heap.size = w.heap.size + 2 := by rw [hE]; simp
  have B0 : Below w.heap.size w E := by rw [hE]; exact ((Below.refl _ _).alloc (Nat.le_refl _) _).alloc (by simp) _
  have SA : SgAt E w.heap.size i a b ca cb sh ot := by
    have h0 : SgAt (w.alloc (.cells #[.int .i64 i, .slice a sh.length ca, .slice b ot.length cb] 36)) w.heap.size i a b ca cb sh ot := ⟨Blk.new _ _ _, hs.alloc _, ho.alloc _⟩
    rw [hE]; exact h0.below ((Below.refl _ _).alloc (Nat.le_refl _) _)
  have RE : Blk E (w.heap.size + 1) #[.int .i64 0, .int .i64 0] 45 := by
    have := Blk.new (w.alloc (.cells #[.int .i64 i, .slice a sh.length ca, .slice b ot.length cb] 36)) #[.int .i64 0, .int .i64 0] 45
    rw [World.size_alloc] at this
    rw [hE]; exact this
  have FA := l8Fault_any w.heap.size i a b ca cb sh ot E SA h1 h2
  clear hs ho
  by_cases hf : sgF i sh ot = 0
  · have IX := fun u => l2Is_any x u
    cases hx : decide (0 ≤ x ∧ x ≤ 65520) with
    | false =>
      have HC : Hid (opC i sh ot x = 3 ∧ opV i sh ot x = 0) := by
        have e : opC i sh ot x = 3 := by unfold opC; rw [if_pos hf, if_neg (of_decide_eq_false hx)]
        exact ⟨e, by unfold opV; rw [if_neg (by omega)]⟩
      rw [hf] at FA
      simp only [hx] at IX
      have k0 : E.cell? ⟨w.heap.size + 1, 0, none⟩ = some (.int .i64 0) := (RE.cell 0).trans rfl
      have k1 : E.cell? ⟨w.heap.size + 1, 1, none⟩ = some (.int .i64 0) := (RE.cell 1).trans rfl
      have f0 := RE.frozen 0
      have f1 := RE.frozen 1
      clear hf hx SA
      go_enter Tryz.func86, Tryz.ntmps86
      go_wp2_with fail
      simp only [← hE]
      clear hE
      refine (FA).mono ?_
      rintro r u ⟨rfl, hu⟩; have hu2 := hu.symm; subst hu2; clear hu
      go_wp2_with fail
      refine (IX _).mono ?_
      rintro r u ⟨rfl, hu⟩; have hu2 := hu.symm; subst hu2; clear hu
      go_wp2
      refine bodyPost_ret (v := .agg #[.int .i64 3, .int .i64 0]) (by simp [results, Tryz.results86, go_sem, k0, k1]) rfl ⟨by rw [HC.out.1, HC.out.2], ?_⟩
      exact spec_set2 B0 (Nat.le_succ _) (Nat.le_succ _) _ _
    | true =>
      obtain ⟨_, l1, l2, hs, ho⟩ := sgF_zero hf
      have HC : Hid (opC i sh ot x = 0 ∧ opV i sh ot x = keyS (opW x sh ot (List.range 16))) := by
        have e : opC i sh ot x = 0 := by unfold opC; rw [if_pos hf, if_pos (of_decide_eq_true hx)]
        exact ⟨e, by unfold opV; rw [if_pos e]⟩
      have OO := l8Opened_any w.heap.size i x a b ca cb sh ot E SA l1 l2 hs ho (of_decide_eq_true hx)
      generalize keyS (opW x sh ot (List.range 16)) = y at *
      rw [hf] at FA
      simp only [hx] at IX
      clear hf hx SA l1 l2 hs ho
      go_enter Tryz.func86, Tryz.ntmps86
      go_wp2_with fail
      simp only [← hE]
      clear hE
      refine (FA).mono ?_
      rintro r u ⟨rfl, hu⟩; have hu2 := hu.symm; subst hu2; clear hu
      go_wp2_with fail
      refine (IX _).mono ?_
      rintro r u ⟨rfl, hu⟩; have hu2 := hu.symm; subst hu2; clear hu
      go_wp2_with fail
      refine OO.mono ?_
      rintro r u1 ⟨rfl, hb1⟩
      have B1 := B0.trans (hb1.mono B0.size)
      have R1 := RE.below hb1 RE.lt
      have k0 : u1.cell? ⟨w.heap.size + 1, 0, none⟩ = some (.int .i64 0) := (R1.cell 0).trans rfl
      have k1 : u1.cell? ⟨w.heap.size + 1, 1, none⟩ = some (.int .i64 0) := (R1.cell 1).trans rfl
      have f0 := R1.frozen 0
      have f1 := R1.frozen 1
      clear R1 hb1
      go_wp2
      refine bodyPost_ret (v := .agg #[.int .i64 0, .int .i64 y]) (by simp [results, Tryz.results86, go_sem, k0, k1]) rfl ⟨by rw [HC.out.1, HC.out.2], ?_⟩
      exact spec_set2 B1 (Nat.le_succ _) (Nat.le_succ _) _ _
  · have hc' : (sgF i sh ot != 0) = true := by simpa using hf
    have HC : Hid (opC i sh ot x = sgF i sh ot ∧ opV i sh ot x = 0) := by
      have e : opC i sh ot x = sgF i sh ot := by unfold opC; rw [if_neg hf]
      exact ⟨e, by unfold opV; rw [if_neg (by rw [e]; exact hf)]⟩
    have k0 : E.cell? ⟨w.heap.size + 1, 0, none⟩ = some (.int .i64 0) := (RE.cell 0).trans rfl
    have k1 : E.cell? ⟨w.heap.size + 1, 1, none⟩ = some (.int .i64 0) := (RE.cell 1).trans rfl
    have f0 := RE.frozen 0
    have f1 := RE.frozen 1
    generalize sgF i sh ot = cc at *
    clear hf SA
    go_enter Tryz.func86, Tryz.ntmps86
    go_wp2_with fail
    simp only [← hE]
    clear hE
    refine (FA).mono ?_
    rintro r u ⟨rfl, hu⟩; have hu2 := hu.symm; subst hu2; clear hu
    go_wp2
    refine bodyPost_ret (v := .agg #[.int .i64 cc, .int .i64 0]) (by simp [results, Tryz.results86, go_sem, k0, k1]) rfl ⟨by rw [HC.out.1, HC.out.2], ?_⟩
    exact spec_set2 B0 (Nat.le_succ _) (Nat.le_succ _) _ _

theorem ckB_code {i : Int} {sh ot : List Int} {x n root : Int} {p : List Int} (h : ¬ opC i sh ot x = 0) : ckB i sh ot x n p root = false := decide_eq_false fun hh => h hh.1
theorem ckB_two {i : Int} {sh ot : List Int} {x n root : Int} {p : List Int} (h : opC i sh ot x = 0) : ckB i sh ot x n p root = (decide (clC (opV i sh ot x) i n p = 0) && decide (clV (opV i sh ot x) i n p = root)) := by
  unfold ckB
  rw [Bool.eq_iff_iff]
  simp only [Bool.and_eq_true, decide_eq_true_eq]
  exact ⟨fun hh => hh.2, fun hh => ⟨h, hh⟩⟩

set_option maxHeartbeats 2000000 in
theorem specCheckSign_any (i x n root : Int) (a b pa : Option Addr) (ca cb cp : Nat) (sh ot p : List Int) (w : World) (hs : Has w .i64 a sh.length sh) (ho : Has w .i64 b ot.length ot) (hp : Has w .i64 pa p.length p) (h1 : sh.length ≤ 1048576) (h2 : ot.length ≤ 1048576) (h3 : p.length ≤ 1048576) (hc : p.length ≤ cp) (hm : cp ≤ maxLen) (hn : -9223372036854775808 ≤ n ∧ n ≤ 9223372036854775807) :
    Calls Tryz.prog 51 #[.agg #[.int .i64 i, .slice a sh.length ca, .slice b ot.length cb], .int .i64 x, .int .i64 n, .slice pa p.length cp, .int .i64 root] w fun r w' => r = .returned (.bool (ckB i sh ot x n p root)) ∧ Below w.heap.size w w' := by
  obtain ⟨E, hE⟩ : ∃ E, E = w.alloc (.cells #[.int .i64 i, .slice a sh.length ca, .slice b ot.length cb] 36) := ⟨_, rfl⟩
  have zE : E.heap.size = w.heap.size + 1 := by rw [hE]; simp
  have B0 : Below w.heap.size w E := by rw [hE]; exact (Below.refl _ _).alloc (Nat.le_refl _) _
  have GE : Blk E w.heap.size #[.int .i64 i, .slice a sh.length ca, .slice b ot.length cb] 36 := by rw [hE]; exact Blk.new _ _ _
  have OO := specOpenSign_any i x a b ca cb sh ot E (hs.below B0 (Nat.le_refl _)) (ho.below B0 (Nat.le_refl _)) h1 h2
  have CL : Hid (∀ (u : World), Below w.heap.size w u → Calls Tryz.prog 87 #[.int .i64 (opV i sh ot x), .int .i64 i, .int .i64 n, .slice pa p.length cp] u fun r w' => r = .returned (.agg #[.int .i64 (clC (opV i sh ot x) i n p), .int .i64 (clV (opV i sh ot x) i n p)]) ∧ Below u.heap.size u w') := fun u hu => specClimb_any _ i n pa cp p u (hp.below hu (Nat.le_refl _)) h3 hc hm hn
  have k0 : E.cell? ⟨w.heap.size, 0, none⟩ = some (.int .i64 i) := (GE.cell 0).trans rfl
  have k1 : E.cell? ⟨w.heap.size, 1, none⟩ = some (.slice a sh.length ca) := (GE.cell 1).trans rfl
  have k2 : E.cell? ⟨w.heap.size, 2, none⟩ = some (.slice b ot.length cb) := (GE.cell 2).trans rfl
  by_cases h0 : opC i sh ot x = 0
  · have HQ : Hid (_) := ckB_two (n := n) (p := p) (root := root) h0
    rw [h0] at OO
    generalize clC (opV i sh ot x) i n p = cc at *
    generalize clV (opV i sh ot x) i n p = cv at *
    generalize opV i sh ot x = ov at *
    clear hs ho hp h0
    go_enter Tryz.func51, Tryz.ntmps51
    go_wp2_with fail
    simp only [← hE]
    clear hE
    refine OO.mono ?_
    rintro r u1 ⟨rfl, hb1⟩
    have B1 := B0.trans (hb1.mono B0.size)
    obtain ⟨E1, hE1⟩ : ∃ E1, E1 = u1.alloc (.cells #[.int .i64 0, .int .i64 ov] 45) := ⟨_, rfl⟩
    have G1 := GE.below hb1 GE.lt
    have B2 : Below w.heap.size w E1 := by rw [hE1]; exact B1.alloc B1.size _
    have CL1 := CL.out E1 B2
    clear k0
    have k0 : u1.cell? ⟨w.heap.size, 0, none⟩ = some (.int .i64 i) := (G1.cell 0).trans rfl
    have zlt := G1.lt
    clear OO k1 k2 hb1 CL G1 GE
    go_wp2_with fail
    simp only [← hE1]
    refine CL1.mono ?_
    rintro r u2 ⟨rfl, hb2⟩
    have B3 := B2.trans (hb2.mono B2.size)
    clear CL1 k0
    clear hE1
    go_wp2
    all_goals
      go_ret
      refine ⟨ret_bool ?_, B3.alloc B3.size _⟩
      rw [HQ.out]
      by_cases q1 : cc = 0 <;> by_cases q2 : cv = root <;> simp_all
  · have HQ : Hid (_) := ckB_code (n := n) (p := p) (root := root) h0
    have h0' : (opC i sh ot x != 0) = true := by simpa using h0
    generalize opC i sh ot x = oc at *
    generalize opV i sh ot x = ov at *
    clear hs ho hp h0 CL
    go_enter Tryz.func51, Tryz.ntmps51
    go_wp2_with fail
    simp only [← hE]
    clear hE
    refine OO.mono ?_
    rintro r u1 ⟨rfl, hb1⟩
    have B1 := B0.trans (hb1.mono B0.size)
    clear OO k0 k1 k2 hb1 GE
    go_wp2
    go_ret
    exact ⟨ret_bool HQ.out.symm, B1.alloc B1.size _⟩

end Go.Proofs.YtffidkoejlebeaaGreatDoor
