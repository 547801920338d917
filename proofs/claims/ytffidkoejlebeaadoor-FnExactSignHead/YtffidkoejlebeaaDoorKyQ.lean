/- Contracts of the program's chapter 8: the sum of a key, SecretOf, PublicOf. -/
import Derived.Test.YtffidkoejlebeaaDoorKyP
import Derived.Test.YtffidkoejlebeaaDoorSplit
namespace Go.Proofs.YtffidkoejlebeaaDoor
open Go.ChangeShapes Go.WideShapes Go.ChangeAt Go.RowKit
set_option maxRecDepth 100000
set_option linter.unusedVariables false
set_option linter.unusedSimpArgs false

theorem set2 {w u : World} {B : Nat} (h : Below B w u) {p q : Addr} (hp : B ≤ p.block) (hq : B ≤ q.block) (x y : Value) : Below B w ((u.setCell p x).setCell q y) := (h.setCell hp _).setCell hq _
theorem own_shapeM {w : World} {base e n : Nat} {v : Value} {xs : List Value} (h : w.ownsRow base e 1 v n xs) : ∃ a c, v = .slice a n c ∧ n ≤ c ∧ c ≤ maxLen := by
  rcases h.2 with ⟨rfl, h0⟩ | ⟨g, cap, cur, rfl, _, _, h1, h2, _⟩
  · exact ⟨none, 0, by rw [h0], by omega, Nat.zero_le _⟩
  · exact ⟨_, cap, rfl, h1, h2⟩

set_option maxHeartbeats 4000000 in
theorem implKeySum_any (a : Option Addr) (c : Nat) (l : List Int) (w : World) (hT : Tab w) (h : Has w .i64 a l.length l) (hl : l.length ≤ 1048576) :
    Calls Tryd.prog 82 #[.slice a l.length c] w fun r w' => r = .returned (.agg #[.int .i64 (kyC l), .int .i64 (kyV l)]) ∧ Below w.heap.size w w' := by
  obtain ⟨i0, hi, hz0, hz1, hz2⟩ := info_parts info8
  obtain ⟨E, hE⟩ : ∃ E, E = w.alloc (.cells #[.int .i64 0, .int .i64 0] 41) := ⟨_, rfl⟩
  have zE : E.heap.size = w.heap.size + 1 := by rw [hE]; simp
  have B0 : Below w.heap.size w E := by rw [hE]; exact (Below.refl _ _).alloc (Nat.le_refl _) _
  have RE : Blk E w.heap.size #[.int .i64 0, .int .i64 0] 41 := by rw [hE]; exact Blk.new _ _ _
  have h' : Has E .i64 a l.length l := h.below B0 (Nat.le_refl _)
  by_cases h32 : l.length = 32
  · have e32 : ((l.length : Int) != 32) = false := by simp; omega
    have SF := sumsFault_any a c l E h' hl
    by_cases hf : suF l = 0
    · have ha : allS l = true := by unfold suF at hf; split at hf; assumption; omega
      have HC : Hid (kyC l = 0 ∧ kyV l = keyS l) := ⟨kyC_of h32 ha, kyV_of h32 ha⟩
      have e0 : (suF l != 0) = false := by simpa using hf
      rw [hf] at SF
      rcases h'.2.2 with h0 | ⟨b, off, rfl, hb, hcell⟩
      · omega
      have WF : Hid (∀ n ∈ numB l, (Lit.int .u8 n).wf = true) := numB_wf ha
      have WK : Hid (∀ n ∈ keyB l, (Lit.int .u8 n).wf = true) := keyB_wf ha
      have SU : Hid (∀ k (h : k < l.length), numB (l.take (k + 1)) = numB (l.take k) ++ [l[k] / 256, l[k] % 256]) := fun k h => by rw [numB_succ l k h]; rfl
      have LN : Hid (∀ k, k ≤ l.length → (numB (l.take k)).length = 2 * k) := fun k h => by rw [numB_len, List.length_take]; omega
      have EN : Hid (numB (l.take l.length) = numB l) := by show _ = _; rw [List.take_length]
      have BD : Hid (∀ k (h : k < l.length), 0 ≤ l[k] ∧ l[k] ≤ 65520) := fun k h => allS_get ha k h
      have LK : Hid ((keyB l).length ≤ 300) := by show _ ≤ _; rw [keyB_len]; omega
      have PL : Hid (∀ (va : Option Addr) (vc : Nat), pieceL 4 [(va, vc, numB l)] = keyB l) := fun va vc => by simp [pieceL, keyB]
      have SO : Hid (∀ (a : Option Addr) (c : Nat) (u : World), Has u .u8 a (keyB l).length (keyB l) → Calls Tryd.prog 99 #[.slice a (keyB l).length c] u fun r w' => r = .returned (.agg #[.int .i64 0, .int .i64 (keyS l)]) ∧ Below u.heap.size u w') := fun a c u hu => by
        have h := implSumOf_any a c _ u hu (by have := LK.out; omega)
        have : ¬ 300 < (keyB l).length := by have := LK.out; omega
        rw [show sumC (keyB l) = 0 by unfold sumC; rw [if_neg this], show sumV (keyB l) = keyS l by unfold sumV; rw [if_neg this]; rfl] at h
        exact h
      have TT : Hid (∀ u : World, Below w.heap.size w u → Tab u) := fun u hu => hT.below hu (Nat.le_refl _)
      have WV : Hid (l.length = 32) := h32
      have hpos : 0 < (l.length : Int) := by omega
      clear h h' ha hf h32 hT
      go_enter Tryd.func82, Tryd.ntmps82
      go_wp2_with fail
      simp only [← hE]
      clear hE
      refine (SF).mono ?_
      rintro r u ⟨rfl, hu⟩; have hu2 := hu.symm; subst hu2; clear hu
      go_wp2
      go_loopw [4, 19] (fun v i wr => ∃ k : Nat, k ≤ l.length ∧ i = .int .i64 k ∧ wr.ownsRow E.heap.size 5 1 v (numB (l.take k)).length ((numB (l.take k)).map (.int .u8)) ∧ Below E.heap.size E wr) (fun _ i _ => l.length - (intOf i).toNat)
      case atStart => exact ⟨0, Nat.zero_le _, rfl, World.ownsRow_nil _ _ _ _, Below.refl _ _⟩
      case round =>
        obtain ⟨k, hk, rfl, hO, hbel⟩ := hrel
        obtain ⟨va, vc, rfl, _, _⟩ := own_shapeM hO
        have zr := hbel.size
        by_cases hlt : k < l.length
        · have hlt' : (k : Int) < (l.length : Int) := by omega
          have zl : (numB (l.take k)).length ≤ 300 := by have := LN.out k hk; have := WV.out; omega
          have e1 : wr.cell? ⟨b, off + k, none⟩ = some (.int .i64 l[k]) := (hbel.cell (p := ⟨b, off + k, none⟩) hb).trans (by rw [hcell k hlt]; simp [List.getD, hlt])
          have bd := BD.out k hlt
          have HSU : Hid (_) := SU.out k hlt
          clear hcell
          generalize l[k] = x at *
          generalize numB (l.take k) = zs at *
          go_wp2_with fail
          refine (twoBytes_any x _ bd.1 (by omega)).mono ?_
          rintro r u1 ⟨rfl, rfl⟩
          go_wp2_with (at_builtin; refine wpList_append_own _ rfl _ _ 24 rfl E.heap.size 5 i0 (.int .u8 0) 1 1 Tryd.underlying24 hi hz0 hz1 hz2 rfl (by decide) _ (zs.length) _ rfl (hO.alloc _) ⟨wr.heap.size, 0, none⟩ 2 2 [.int .u8 (x / 256), .int .u8 (x % 256)] rfl (by simp) (two_new _ _ _ _) (by intro u hu; simp at hu; rcases hu with rfl | rfl <;> rfl) (by unfold maxLen; omega) (by omega) (by simp; omega) ?_; intro v5 w5 hn5 hg5 hx5)
          have B5 : Below E.heap.size E w5 := (hbel.alloc zr _).trans ((Below.refl _ _).grown hg5 (by simp; omega) (fun k hk => (hO.lt k hk).1))
          have O5 : w5.ownsRow E.heap.size 5 1 v5 (numB (l.take (k + 1))).length ((numB (l.take (k + 1))).map (.int .u8)) := by
            rw [HSU.out, List.length_append]
            simpa using hn5
          clear hn5 hg5 hx5 hO
          go_wp2
          go_roundw
          case rel => exact ⟨k + 1, by omega, by go_num, O5, B5⟩
          case measure => simp [intOf]; omega
        · obtain rfl : k = l.length := by omega
          clear hlt hcell
          rw [EN.out] at hO
          have el := EN.out
          rw [el]
          clear el
          have H := has_of_own hO WF.out
          have B1 : Below w.heap.size w wr := B0.trans (hbel.mono B0.size)
          have PO := pieceOf_any 4 (by decide) [(va, vc, numB l)] wr.heap.size (wr.alloc (.cells #[.slice va (numB l).length vc] 24)) ((TT.out wr B1).alloc _) (by simp) (by intro i hi; obtain rfl : i = 0 := (by simpa using hi); simp [go_sem]) (by intro i hi; obtain rfl : i = 0 := (by simpa using hi); exact H.alloc _) (by simp) (by rw [PL.out]; have := LK.out; omega)
          rw [PL.out] at PO
          have POH : Hid (_) := PO
          have R1 := RE.below hbel RE.lt
          have B2 : Below w.heap.size w (wr.alloc (.cells #[.slice va (numB l).length vc] 24)) := B1.alloc B1.size _
          have R2 := R1.below (W' := wr.alloc (.cells #[.slice va (numB l).length vc] 24)) ((Below.refl _ _).alloc (Nat.le_refl _) _) R1.lt
          clear hO SU LN BD WF PL TT EN PO R1
          go_wp2_with fail
          refine Calls.mono (P := Tryd.prog) (f := 35) POH.out ?_
          rintro r u1 ⟨a1, c1, rfl, O1, hb1⟩
          have H1 := SO.out a1 c1 u1 (has_of_own O1 WK.out)
          have B3 := B2.trans (hb1.mono B2.size)
          have R3 := R2.below hb1 R2.lt
          clear O1 hb1 R2 POH H
          go_wp2_with fail
          refine H1.mono ?_
          rintro r u2 ⟨rfl, hb2⟩
          have B4 := B3.trans (hb2.mono B3.size)
          have R4 := R3.below hb2 R3.lt
          have k0 : u2.cell? ⟨w.heap.size, 0, none⟩ = some (.int .i64 0) := (R4.cell 0).trans rfl
          have k1 : u2.cell? ⟨w.heap.size, 1, none⟩ = some (.int .i64 0) := (R4.cell 1).trans rfl
          have f0 := R4.frozen 0
          have f1 := R4.frozen 1
          clear R3 R4 hb2 H1 SO
          go_wp2
          refine bodyPost_ret (v := .agg #[.int .i64 0, .int .i64 (keyS l)]) (by simp [results, Tryd.results82, go_sem, k0, k1]) rfl ⟨by rw [HC.out.1, HC.out.2], ?_⟩
          exact set2 B4 (Nat.le_refl _) (Nat.le_refl _) _ _
    · have HC : Hid (kyC l = suF l ∧ kyV l = 0) := by
        have e : kyC l = suF l := by unfold kyC; rw [if_pos h32]
        exact ⟨e, by unfold kyV; rw [if_neg (by rw [e]; exact hf)]⟩
      have e0 : (suF l != 0) = true := by simpa using hf
      generalize suF l = cc at *
      have k0 : E.cell? ⟨w.heap.size, 0, none⟩ = some (.int .i64 0) := (RE.cell 0).trans rfl
      have k1 : E.cell? ⟨w.heap.size, 1, none⟩ = some (.int .i64 0) := (RE.cell 1).trans rfl
      have f0 := RE.frozen 0
      have f1 := RE.frozen 1
      clear h32 hf
      go_enter Tryd.func82, Tryd.ntmps82
      go_wp2_with fail
      simp only [← hE]
      clear hE
      refine (SF).mono ?_
      rintro r u ⟨rfl, hu⟩; have hu2 := hu.symm; subst hu2; clear hu
      go_wp2
      refine bodyPost_ret (v := .agg #[.int .i64 cc, .int .i64 0]) (by simp [results, Tryd.results82, go_sem, k0, k1]) rfl ⟨by rw [HC.out.1, HC.out.2], ?_⟩
      exact set2 B0 (Nat.le_refl _) (Nat.le_refl _) _ _
  · have e32 : ((l.length : Int) != 32) = true := by simp; omega
    have HC : Hid (kyC l = 2 ∧ kyV l = 0) := by
      have e : kyC l = 2 := by unfold kyC; rw [if_neg h32]
      exact ⟨e, by unfold kyV; rw [if_neg (by omega)]⟩
    clear h32 RE h' zE B0
    subst hE
    go_enter Tryd.func82, Tryd.ntmps82
    go_wp2
    refine bodyPost_ret (v := .agg #[.int .i64 2, .int .i64 0]) (by simp [results, Tryd.results82, go_sem]) rfl ⟨by rw [HC.out.1, HC.out.2], ?_⟩
    repeat (first | exact Below.refl _ _ | refine Below.alloc ?_ (by (try simp) <;> omega) _ | refine Below.setCell ?_ (by (try simp) <;> omega) _)

end Go.Proofs.YtffidkoejlebeaaDoor
