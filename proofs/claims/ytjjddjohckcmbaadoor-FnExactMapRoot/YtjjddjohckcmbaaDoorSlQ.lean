/- Contracts of the model of chapter 7: the way of a key, a climb, the root. Contracts of chapter 7: the code of a climb (both sides); the model's climb, root, path and whether a slot is taken. -/
import Derived.Test.YtjjddjohckcmbaaDoorSlC
import Derived.Test.YtjjddjohckcmbaaDoorSplit
import Derived.Test.YtjjddjohckcmbaaDoorLvl
import Derived.Test.YtjjddjohckcmbaaDoorISums
namespace Go.Proofs.YtjjddjohckcmbaaDoor
open Go.ChangeShapes Go.WideShapes Go.ChangeAt Go.RowKit
set_option linter.unusedVariables false
set_option linter.unusedSimpArgs false

theorem one7 (w : World) (x : Value) (T : Nat) : ∀ (j : Nat) (u : Value), [x][j]? = some u → (w.alloc (.cells #[x] T)).cell? ((⟨w.heap.size, 0, none⟩ : Addr).add j) = some u := by
  intro j u hj
  match j, hj with
  | 0, hj => simp at hj; subst hj; simp [Addr.add]
/-- Numbers in memory of one's own. -/
abbrev OwnI (w : World) (base : Nat) (v : Value) (zs : List Int) : Prop := w.ownsRow base 2 1 v zs.length (zs.map (.int .i64))
theorem mpP_snoc (l : List Sl) (k : Int) {j : Nat} (h : j < 6) : (mpP l k).take (j + 1) = (mpP l k).take j ++ [mpS l k j] := by
  have hl := mpP_len l k
  rw [List.take_succ_eq_append_getElem (by omega)]
  congr 1
  have := mpP_get l k h
  rw [List.getD_eq_getElem?_getD, List.getElem?_eq_getElem (by omega)] at this
  simpa using this
theorem mpP_bd (l : List Sl) (k : Int) : ∀ n ∈ mpP l k, 0 ≤ n ∧ n ≤ 65520 := by
  intro n hn
  unfold mpP at hn
  simp only [List.mem_map] at hn
  obtain ⟨i, _, rfl⟩ := hn
  exact mpS_bd l k i
theorem mpP_wf (l : List Sl) (k : Int) : ∀ n ∈ mpP l k, (Lit.int .i64 n).wf = true := fun n hn => WalkArith.wf_i64 (by have := mpP_bd l k n hn; omega)
theorem mpP_all (l : List Sl) (k : Int) : allS (mpP l k) = true := by
  unfold allS
  rw [List.all_eq_true]
  intro n hn
  have := mpP_bd l k n hn
  simpa using this
theorem path_facts {k : Int} {j : Nat} (hj : j < 6) (h0 : 0 ≤ k) (h1 : k ≤ 63) : (0 < (2 : Int) ^ j ∧ (2 : Int) ^ j ≤ 32) ∧ (0 ≤ k / 2 ^ j ∧ k / 2 ^ j ≤ 63) ∧ (0 ≤ k / 2 ^ j * 2 ^ j ∧ k / 2 ^ j * 2 ^ j ≤ 63) ∧ k / 2 ^ j * 2 ^ j / 2 ^ j = k / 2 ^ j ∧ (k / 2 ^ j % 2 = 0 → k / 2 ^ j * 2 ^ j + 2 ^ j + 2 ^ j ≤ 64) ∧ (¬ k / 2 ^ j % 2 = 0 → 0 ≤ k / 2 ^ j * 2 ^ j - 2 ^ j) := by
  have : j = 0 ∨ j = 1 ∨ j = 2 ∨ j = 3 ∨ j = 4 ∨ j = 5 := by omega
  rcases this with rfl | rfl | rfl | rfl | rfl | rfl <;> refine ⟨⟨by decide, by decide⟩, ?_⟩ <;> simp <;> omega
theorem pow_lt {j : Nat} (h : j ≤ 6) : ((2 : Int) ^ j < 64 ↔ j < 6) ∧ (2 : Int) ^ j ≤ 64 ∧ (2 : Int) ^ (j + 1) = 2 * 2 ^ j := by
  have : j = 0 ∨ j = 1 ∨ j = 2 ∨ j = 3 ∨ j = 4 ∨ j = 5 ∨ j = 6 := by omega
  rcases this with rfl | rfl | rfl | rfl | rfl | rfl | rfl <;> decide

set_option maxRecDepth 100000 in
set_option maxHeartbeats 4000000 in
theorem l7Path_any (a : Option Addr) (c : Nat) (l : List Sl) (key : Int) (w : World) (h : HasS w a l) (hl : l.length ≤ 1048576) (hok : ∀ s ∈ l, slOk s = true) (hk0 : 0 ≤ key) (hk1 : key ≤ 63) :
    Calls Tryd.prog 65 #[.slice a l.length c, .int .i64 key] w fun r w' => ∃ a' c', r = .returned (.slice a' (mpP l key).length c') ∧ OwnI w' w.heap.size (.slice a' (mpP l key).length c') (mpP l key) ∧ Below w.heap.size w w' := by
  obtain ⟨i0, hi, hz0, hz1, hz2⟩ := info_parts info64
  have hown0 : (w.alloc (.cells #[] 2)).ownsRow w.heap.size 2 1 (.slice (some ⟨w.heap.size, 0, none⟩) 0 0) 0 [] := World.ownsRow_lit w #[] 0 (Nat.le_refl _) (Nat.zero_le _) rfl
  have OI0 : OwnI (w.alloc (.cells #[] 2)) w.heap.size (.slice (some ⟨w.heap.size, 0, none⟩) 0 0) ((mpP l key).take 0) := hown0
  have B0 : Below w.heap.size w (w.alloc (.cells #[] 2)) := (Below.refl _ _).alloc (Nat.le_refl _) _
  have ND : Hid (∀ (n : Nat) (f S : Int) (u : World), Below w.heap.size w u → S = 2 ^ n → S ≤ 64 → 0 ≤ f → f + S ≤ 64 → Calls Tryd.prog 57 #[.slice a l.length c, .int .i64 f, .int .i64 S] u fun r w' => r = .returned (.int .i64 (mpN l n f)) ∧ Below u.heap.size u w') := fun n f S u hu => l7Node_any a c l hl hok n f S u (h.below hu (Nat.le_refl _))
  have SN : Hid (∀ j, j < 6 → (mpP l key).take (j + 1) = (mpP l key).take j ++ [mpS l key j]) := fun j hj => mpP_snoc l key hj
  have EN : Hid ((mpP l key).take 6 = mpP l key) := by show _ = _; rw [List.take_of_length_le]; rw [mpP_len]; omega
  have LE : Hid (∀ j, j ≤ 6 → ((mpP l key).take j).length = j) := fun j hj => by rw [List.length_take, mpP_len]; omega
  have MS : Hid (∀ j, mpS l key j = if key / 2 ^ j % 2 = 0 then mpN l j (key / 2 ^ j * 2 ^ j + 2 ^ j) else mpN l j (key / 2 ^ j * 2 ^ j - 2 ^ j)) := fun j => rfl
  generalize mpP l key = P at *
  clear h hok hown0
  go_enter Tryd.func65, Tryd.ntmps65
  go_wp2
  go_loopw [5, 6] (fun v ss wr => ∃ (j : Nat) (S : Int), j ≤ 6 ∧ S = 2 ^ j ∧ ss = .int .i64 S ∧ OwnI wr w.heap.size v (P.take j) ∧ Below w.heap.size w wr) (fun _ ss _ => (64 - intOf ss).toNat)
  case atStart => exact ⟨0, 1, Nat.zero_le _, rfl, rfl, OI0, B0⟩
  case round =>
    clear OI0 B0
    obtain ⟨j, S, hj, hS, rfl, hO, hbel⟩ := hrel
    obtain ⟨va, vc, rfl, _, _⟩ := own2_shape hO
    obtain ⟨p1, p2, p3⟩ := pow_lt hj
    have hlj := LE.out j hj
    have hlm : min j P.length = j := by rw [← List.length_take]; exact hlj
    have zr := hbel.size
    rw [← hS] at p1 p2 p3
    by_cases hlt : j < 6
    · have hS64 : S < 64 := p1.2 hlt
      obtain ⟨⟨f1, f2⟩, ⟨f3, f4⟩, ⟨f5, f6⟩, f7, f8, f9⟩ := path_facts hlt hk0 hk1
      have hms := MS.out j
      have NJ : Hid (∀ (f : Int) (u : World), Below w.heap.size w u → 0 ≤ f → f + S ≤ 64 → Calls Tryd.prog 57 #[.slice a l.length c, .int .i64 f, .int .i64 S] u fun r w' => r = .returned (.int .i64 (mpN l j f)) ∧ Below u.heap.size u w') := fun f u hu => ND.out j f S u hu hS (by omega)
      have SNJ := SN.out j hlt
      rw [← hS] at f1 f2 f3 f4 f5 f6 f7 f8 f9 hms
      have HP3 : Hid ((2 : Int) ^ (j + 1) = 2 * S) := p3
      clear p1 p2 p3 hS MS ND SN EN LE
      obtain ⟨Q, hQ⟩ : ∃ Q, key / S = Q := ⟨_, rfl⟩
      rw [hQ] at f3 f4 f5 f6 f7 f8 f9 hms
      obtain ⟨F, hF⟩ : ∃ F, Q * S = F := ⟨_, rfl⟩
      rw [hF] at f5 f6 f7 f8 f9 hms
      by_cases hp : Q % 2 = 0
      · have hp' : (Q % 2 == 0) = true := by simpa using hp
        have g := f8 hp
        rw [if_pos hp] at hms
        rw [hms] at SNJ
        have ms2 : 2 * S ≤ 64 := by omega
        have HSN : Hid (P.take (j + 1) = P.take j ++ [mpN l j (F + S)]) := SNJ
        have NL : Hid (∀ u : World, Below w.heap.size w u → Calls Tryd.prog 57 #[.slice a l.length c, .int .i64 (F + S), .int .i64 S] u fun r w' => r = .returned (.int .i64 (mpN l j (F + S))) ∧ Below u.heap.size u w') := fun u hu => NJ.out (F + S) u hu (by omega) (by omega)
        clear hp SNJ hms f8 f9 NJ
        generalize mpN l j (F + S) = x at *
        go_wp2_with fail
        refine (NL.out _ hbel).mono ?_
        rintro r u1 ⟨rfl, hb1⟩
        have O1 : World.ownsRow u1 w.heap.size 2 1 (.slice va j vc) j ((P.take j).map (.int .i64)) := by
          have := own2_below hO hb1
          rw [hlj] at this
          exact this
        have B1 := hbel.trans (hb1.mono zr)
        have z1 := B1.size
        clear hO hb1
        go_wp2_with (at_builtin; (refine wpList_append_own _ rfl _ _ 27 rfl w.heap.size 2 i0 (.int .i64 0) 1 8 Tryd.underlying27 hi hz0 hz1 hz2 rfl (by decide) _ (j) _ rfl (O1.alloc _) ⟨u1.heap.size, 0, none⟩ 1 1 [.int .i64 (x)] rfl rfl (one7 _ _ _) (by intro u hu; simp at hu; subst hu; rfl) (by unfold maxLen; omega) (by omega) (by simp; omega) ?_; intro v3 w3 hn3 hg3 h43))
        have B3 : Below w.heap.size w w3 := (B1.alloc z1 _).trans ((Below.refl _ _).grown hg3 (by simp; omega) (fun k hk => (O1.lt k hk).1))
        have O3 : OwnI w3 w.heap.size v3 (P.take (j + 1)) := by
          rw [HSN.out]
          show World.ownsRow w3 _ _ 1 v3 (P.take j ++ [x]).length _
          rw [List.length_append, hlj]
          simpa using hn3
        have OH : Hid (OwnI w3 w.heap.size v3 (P.take (j + 1))) := O3
        clear hn3 hg3 h43 O3 O1
        go_wp2
        go_roundw
        case rel => exact ⟨j + 1, 2 * S, by omega, HP3.out.symm, rfl, OH.out, B3⟩
        case measure => simp [intOf]; omega
      · have hp' : (Q % 2 == 0) = false := by simpa using hp
        have g := f9 hp
        rw [if_neg hp] at hms
        rw [hms] at SNJ
        have ms2 : 2 * S ≤ 64 := by omega
        have HSN : Hid (P.take (j + 1) = P.take j ++ [mpN l j (F - S)]) := SNJ
        have NL : Hid (∀ u : World, Below w.heap.size w u → Calls Tryd.prog 57 #[.slice a l.length c, .int .i64 (F - S), .int .i64 S] u fun r w' => r = .returned (.int .i64 (mpN l j (F - S))) ∧ Below u.heap.size u w') := fun u hu => NJ.out (F - S) u hu (by omega) (by omega)
        clear hp SNJ hms f8 f9 NJ
        generalize mpN l j (F - S) = x at *
        go_wp2_with fail
        refine (NL.out _ hbel).mono ?_
        rintro r u1 ⟨rfl, hb1⟩
        have O1 : World.ownsRow u1 w.heap.size 2 1 (.slice va j vc) j ((P.take j).map (.int .i64)) := by
          have := own2_below hO hb1
          rw [hlj] at this
          exact this
        have B1 := hbel.trans (hb1.mono zr)
        have z1 := B1.size
        clear hO hb1
        go_wp2_with (at_builtin; (refine wpList_append_own _ rfl _ _ 27 rfl w.heap.size 2 i0 (.int .i64 0) 1 8 Tryd.underlying27 hi hz0 hz1 hz2 rfl (by decide) _ (j) _ rfl (O1.alloc _) ⟨u1.heap.size, 0, none⟩ 1 1 [.int .i64 (x)] rfl rfl (one7 _ _ _) (by intro u hu; simp at hu; subst hu; rfl) (by unfold maxLen; omega) (by omega) (by simp; omega) ?_; intro v3 w3 hn3 hg3 h43))
        have B3 : Below w.heap.size w w3 := (B1.alloc z1 _).trans ((Below.refl _ _).grown hg3 (by simp; omega) (fun k hk => (O1.lt k hk).1))
        have O3 : OwnI w3 w.heap.size v3 (P.take (j + 1)) := by
          rw [HSN.out]
          show World.ownsRow w3 _ _ 1 v3 (P.take j ++ [x]).length _
          rw [List.length_append, hlj]
          simpa using hn3
        have OH : Hid (OwnI w3 w.heap.size v3 (P.take (j + 1))) := O3
        clear hn3 hg3 h43 O3 O1
        go_wp2
        go_roundw
        case rel => exact ⟨j + 1, 2 * S, by omega, HP3.out.symm, rfl, OH.out, B3⟩
        case measure => simp [intOf]; omega
    · obtain rfl : j = 6 := by omega
      have hS64 : ¬ S < 64 := fun e => hlt (p1.1 e)
      have hE := EN.out
      rw [hE] at hO
      have HL : Hid (min 6 P.length = P.length) := by show _ = _; rw [← List.length_take, hE]
      have OH : Hid (OwnI wr w.heap.size (.slice va P.length vc) P) := hO
      clear hO hE p1 p2 p3 hS hlj hlm SN EN LE MS ND
      go_wp2
      go_ret
      exact ⟨va, vc, by rw [HL.out]; rfl, OH.out, hbel⟩

set_option maxRecDepth 100000 in
set_option maxHeartbeats 4000000 in
theorem l7Climb_any (a : Option Addr) (c : Nat) (p : List Int) (key leaf : Int) (w : World) (h : Has w .i64 a p.length p) (hp6 : p.length ≤ 6) (hall : allS p = true) (hk0 : 0 ≤ key) (hk1 : key ≤ 63) (hf : 0 ≤ leaf ∧ leaf ≤ 65520) :
    Calls Tryd.prog 61 #[.int .i64 key, .int .i64 leaf, .slice a p.length c] w fun r w' => r = .returned (.int .i64 (mpC key leaf p p.length)) ∧ Below w.heap.size w w' := by
  have AL : Hid (allS p = true) := hall
  have HF : Hid (0 ≤ leaf ∧ leaf ≤ 65520) := hf
  clear hall hf
  rcases h.2.2 with h0 | ⟨b, off, rfl, hb, hcell⟩
  · obtain rfl : p = [] := List.eq_nil_of_length_eq_zero h0
    clear h0
    simp only [List.length_nil]
    go_enter Tryd.func61, Tryd.ntmps61
    go_wp2
    refine wp_loop_rounds 1 ?_
    rw [rounds_succ]
    go_wp2
    go_ret
    exact ⟨rfl, Below.refl _ _⟩
  · clear h
    go_enter Tryd.func61, Tryd.ntmps61
    go_wp2
    go_loopw [1, 7] (fun v i wr => ∃ j : Nat, j ≤ p.length ∧ i = .int .i64 j ∧ v = .int .i64 (mpC key leaf p j) ∧ Below w.heap.size w wr) (fun _ i _ => p.length - (intOf i).toNat)
    case atStart => exact ⟨0, Nat.zero_le _, rfl, rfl, Below.refl _ _⟩
    case round =>
      obtain ⟨j, hj, rfl, rfl, hbel⟩ := hrel
      have zr := hbel.size
      by_cases hlt : j < p.length
      · have hlt' : (j : Int) < (p.length : Int) := by omega
        obtain ⟨_, ⟨f3, f4⟩, _, _, _, _⟩ := path_facts (show j < 6 by omega) hk0 hk1
        have e1 : wr.cell? ⟨b, off + j, none⟩ = some (.int .i64 (p.getD j 0)) := (hbel.cell (p := ⟨b, off + j, none⟩) hb).trans (hcell j hlt)
        have bp := getD_bd AL.out j
        have bc := mpC_bd key p HF.out j
        have HC : Hid (mpC key leaf p (j + 1) = if key / 2 ^ j % 2 = 0 then nS (mpC key leaf p j) (p.getD j 0) else nS (p.getD j 0) (mpC key leaf p j)) := rfl
        generalize p.getD j 0 = y at *
        generalize mpC key leaf p j = x at *
        obtain ⟨Q, hQ⟩ : ∃ Q, key / 2 ^ j = Q := ⟨_, rfl⟩
        rw [hQ] at f3 f4 HC
        have NS : Hid (∀ (x y : Int) (u : World), 0 ≤ x ∧ x ≤ 65520 → 0 ≤ y ∧ y ≤ 65520 → Calls Tryd.prog 95 #[.int .i64 x, .int .i64 y] u fun r w' => r = .returned (.int .i64 (nS x y)) ∧ Below u.heap.size u w') := fun x y u h1 h2 => l2NodeSum_any x y u h1.1 (by omega) h2.1 (by omega)
        clear hcell
        by_cases hp : Q % 2 = 0
        · have hp' : (Q % 2 == 0) = true := by simpa using hp
          have HC2 : Hid (mpC key leaf p (j + 1) = nS x y) := by show _ = _; rw [HC.out, if_pos hp]
          clear hp HC
          go_wp2_with fail
          refine (NS.out x y _ bc bp).mono ?_
          rintro r u1 ⟨rfl, hb1⟩
          have B1 := hbel.trans (hb1.mono zr)
          go_wp2
          go_roundw
          case rel => exact ⟨j + 1, by omega, by go_num, by rw [HC2.out], B1⟩
          case measure => simp [intOf]; omega
        · have hp' : (Q % 2 == 0) = false := by simpa using hp
          have HC2 : Hid (mpC key leaf p (j + 1) = nS y x) := by show _ = _; rw [HC.out, if_neg hp]
          clear hp HC
          go_wp2_with fail
          refine (NS.out y x _ bp bc).mono ?_
          rintro r u1 ⟨rfl, hb1⟩
          have B1 := hbel.trans (hb1.mono zr)
          go_wp2
          go_roundw
          case rel => exact ⟨j + 1, by omega, by go_num, by rw [HC2.out], B1⟩
          case measure => simp [intOf]; omega
      · have hjj : j = p.length := by omega
        have HK : Hid (j = p.length) := hjj
        clear hjj
        go_wp2
        go_ret
        exact ⟨ret_int (by rw [HK.out]), hbel⟩

end Go.Proofs.YtjjddjohckcmbaaDoor

namespace Go.Proofs.YtjjddjohckcmbaaDoor
open Go.ChangeShapes Go.WideShapes Go.ChangeAt Go.RowKit
set_option linter.unusedVariables false
set_option linter.unusedSimpArgs false

/-- What a climb's code hangs on. -/
theorem clF_key {k v : Int} {t : Bool} {p : List Int} (h : decide (0 ≤ k ∧ k ≤ 63) = false) : clF k t v p = 3 := by
  unfold clF
  rw [if_pos]
  left
  simpa using h
theorem clF_val {k v : Int} {p : List Int} (h : decide (0 ≤ v ∧ v ≤ 65520) = false) : clF k true v p = 3 := by
  unfold clF
  rw [if_pos]
  right; left
  exact ⟨rfl, by simpa using h⟩
theorem clF_none {k v : Int} {p : List Int} (h : ¬ v = 0) : clF k false v p = 3 := by
  unfold clF
  rw [if_pos]
  right; right
  exact ⟨rfl, h⟩
/-- The slot of a climb is as it should be. -/
def slotOk (k : Int) (t : Bool) (v : Int) : Prop := (0 ≤ k ∧ k ≤ 63) ∧ (0 ≤ v ∧ v ≤ 65520) ∧ (t = false → v = 0)
theorem clF_len {k v : Int} {t : Bool} {p : List Int} (h : slotOk k t v) (hp : p.length ≠ 6) : clF k t v p = 8 := by
  obtain ⟨h1, h2, h3⟩ := h
  unfold clF
  rw [if_neg, if_pos hp]
  rintro (h | h | h)
  · exact h h1
  · exact h.2 h2
  · exact h.2 (h3 h.1)
theorem clF_all {k v : Int} {t : Bool} {p : List Int} (h : slotOk k t v) (hp : p.length = 6) : clF k t v p = if allS p = true then 0 else 3 := by
  obtain ⟨h1, h2, h3⟩ := h
  unfold clF
  rw [if_neg, if_neg (by omega)]
  rintro (h | h | h)
  · exact h h1
  · exact h.2 h2
  · exact h.2 (h3 h.1)
/-- What a climb comes to. -/
def clW (k : Int) (t : Bool) (v : Int) (p : List Int) : Int := if clF k t v p = 0 then mpC k (sumL (lfB k t v)) p 6 else 0
theorem clW_zero {k v : Int} {t : Bool} {p : List Int} (h : ¬ clF k t v p = 0) : clW k t v p = 0 := by unfold clW; rw [if_neg h]
theorem clW_bd (k : Int) (t : Bool) (v : Int) (p : List Int) : 0 ≤ clW k t v p ∧ clW k t v p ≤ 65520 := by
  unfold clW
  split
  · exact mpC_bd _ _ (sum_bd _) _
  · omega
theorem clF_ways {k v : Int} {t : Bool} (Q : Prop) (h1 : decide (0 ≤ k ∧ k ≤ 63) = false → Q) (h2 : decide (0 ≤ k ∧ k ≤ 63) = true → t = true → decide (0 ≤ v ∧ v ≤ 65520) = false → Q) (h3 : decide (0 ≤ k ∧ k ≤ 63) = true → t = false → ¬ v = 0 → Q) (h4 : decide (0 ≤ k ∧ k ≤ 63) = true → t = true → decide (0 ≤ v ∧ v ≤ 65520) = true → slotOk k t v → Q) (h5 : decide (0 ≤ k ∧ k ≤ 63) = true → t = false → v = 0 → slotOk k t v → Q) : Q := by
  by_cases hk : 0 ≤ k ∧ k ≤ 63
  · have hk' : decide (0 ≤ k ∧ k ≤ 63) = true := by simpa using hk
    cases t with
    | true =>
      by_cases hv : 0 ≤ v ∧ v ≤ 65520
      · exact h4 hk' rfl (by simpa using hv) ⟨hk, hv, by simp⟩
      · exact h2 hk' rfl (by simpa using hv)
    | false =>
      by_cases hv : v = 0
      · exact h5 hk' rfl hv ⟨hk, by omega, fun _ => hv⟩
      · exact h3 hk' rfl hv
  · exact h1 (by simpa using hk)

set_option maxRecDepth 100000 in
set_option maxHeartbeats 4000000 in
theorem specClimbSlot_any (k v : Int) (t : Bool) (a : Option Addr) (c : Nat) (p : List Int) (w : World) (h : Has w .i64 a p.length p) (hl : p.length ≤ 1048576) :
    Calls Tryd.prog 16 #[.int .i64 k, .bool t, .int .i64 v, .slice a p.length c] w fun r w' => r = .returned (.agg #[.int .i64 (clF k t v p), .int .i64 (clW k t v p)]) ∧ Below w.heap.size w w' := by
  have h0 := h.alloc (.cells #[.int .i64 0, .int .i64 0] 34)
  have bad : ∀ (cd : Int), clF k t v p = cd → cd ≠ 0 → clW k t v p = 0 := fun cd h1 h2 => clW_zero (by rw [h1]; exact h2)
  have B0 : Below w.heap.size w (w.alloc (.cells #[.int .i64 0, .int .i64 0] 34)) := (Below.refl _ _).alloc (Nat.le_refl _) _
  have rest : slotOk k t v → decide (0 ≤ k ∧ k ≤ 63) = true → (t = true ∧ decide (0 ≤ v ∧ v ≤ 65520) = true ∨ t = false ∧ v = 0) → Calls Tryd.prog 16 #[.int .i64 k, .bool t, .int .i64 v, .slice a p.length c] w fun r w' => r = .returned (.agg #[.int .i64 (clF k t v p), .int .i64 (clW k t v p)]) ∧ Below w.heap.size w w' := by
    intro hs hk ht
    have hs1 := hs.1
    have hs2 := hs.2.1
    by_cases h6 : p.length = 6
    · have h6' : ((p.length : Int) != 6) = false := by simp; omega
      have hal := clF_all hs h6
      cases hA : allS p with
      | false =>
        have e1 : clF k t v p = 3 := by rw [hal, hA]; rfl
        rw [e1, bad 3 e1 (by decide)]
        clear hal bad e1 hs h6
        rcases ht with ⟨rfl, d2⟩ | ⟨rfl, rfl⟩
        · go_enter Tryd.func16, Tryd.ntmps16
          go_wp2_with (first | (go_at_call 58; refine (l7Key_any k _).mono ?_; rintro r u ⟨rfl, rfl⟩; rw [hk]) | (go_at_call 59; refine (l2Is_any v _).mono ?_; rintro r u ⟨rfl, rfl⟩; rw [d2]) | (go_at_call 60; refine (l1All_any a c p _ h0 hl).mono ?_; rintro r u ⟨rfl, rfl⟩; rw [hA]))
          refine bodyPost_ret (v := .agg #[.int .i64 (3), .int .i64 (0)]) (by simp [results, Tryd.results16, go_sem]) rfl ⟨rfl, ?_⟩
          repeat (first | exact Below.refl _ _ | refine Below.alloc ?_ (by (try simp) <;> omega) _ | refine Below.setCell ?_ (by (try simp) <;> omega) _)
        · go_enter Tryd.func16, Tryd.ntmps16
          go_wp2_with (first | (go_at_call 58; refine (l7Key_any k _).mono ?_; rintro r u ⟨rfl, rfl⟩; rw [hk]) | (go_at_call 60; refine (l1All_any a c p _ h0 hl).mono ?_; rintro r u ⟨rfl, rfl⟩; rw [hA]))
          refine bodyPost_ret (v := .agg #[.int .i64 (3), .int .i64 (0)]) (by simp [results, Tryd.results16, go_sem]) rfl ⟨rfl, ?_⟩
          repeat (first | exact Below.refl _ _ | refine Below.alloc ?_ (by (try simp) <;> omega) _ | refine Below.setCell ?_ (by (try simp) <;> omega) _)
      | true =>
        have e1 : clF k t v p = 0 := by rw [hal, hA]; rfl
        have e2 : clW k t v p = mpC k (sumL (lfB k t v)) p 6 := by unfold clW; rw [if_pos e1]
        rw [e1, e2]
        have LB : Hid (∀ u : World, Calls Tryd.prog 63 #[.int .i64 k, .bool t, .int .i64 v] u fun r w' => ∃ a' c', r = .returned (.slice a' (lfB k t v).length c') ∧ OwnB w' u.heap.size a' c' (lfB k t v) ∧ Below u.heap.size u w') := fun u => l7Bytes_any k v t u hs1 hs2
        have LW : Hid (∀ n ∈ lfB k t v, (Lit.int .u8 n).wf = true) := lfB_wf t hs1 hs2
        have LL : (lfB k t v).length ≤ 4 := lfB_len k v t
        have SB := sum_bd (lfB k t v)
        have CL : Hid (∀ (x : Int) (u : World), Below w.heap.size w u → 0 ≤ x ∧ x ≤ 65520 → Calls Tryd.prog 61 #[.int .i64 k, .int .i64 x, .slice a p.length c] u fun r w' => r = .returned (.int .i64 (mpC k x p 6)) ∧ Below u.heap.size u w') := fun x u hu hx => by
          have := l7Climb_any a c p k x u (h.below hu (Nat.le_refl _)) (by omega) hA hs1.1 hs1.2 hx
          rw [h6] at this ⊢
          exact this
        clear hal bad e1 e2 hs h6
        generalize lfB k t v = zs at *
        have BN : ∀ u : World, Below (w.alloc (.cells #[.int .i64 0, .int .i64 0] 34)).heap.size (w.alloc (.cells #[.int .i64 0, .int .i64 0] 34)) u → Below w.heap.size w u := fun u hu => B0.trans (hu.mono (by simp))
        have BNH : Hid (_) := BN
        clear BN
        rcases ht with ⟨rfl, d2⟩ | ⟨rfl, rfl⟩
        · go_enter Tryd.func16, Tryd.ntmps16
          go_wp2_with (first | (go_at_call 58; refine (l7Key_any k _).mono ?_; rintro r u ⟨rfl, rfl⟩; rw [hk]) | (go_at_call 59; refine (l2Is_any v _).mono ?_; rintro r u ⟨rfl, rfl⟩; rw [d2]) | (go_at_call 60; refine (l1All_any a c p _ h0 hl).mono ?_; rintro r u ⟨rfl, rfl⟩; rw [hA]))
          refine (LB.out _).mono ?_
          rintro r u1 ⟨a1, c1, rfl, O1, hb1⟩
          go_wp2_with fail
          refine (l2Sum_any a1 c1 zs _ (has_of_own O1 LW.out) (by omega)).mono ?_
          rintro r u2 ⟨rfl, rfl⟩
          go_wp2_with fail
          refine (CL.out _ _ (BNH.out _ hb1) SB).mono ?_
          rintro r u3 ⟨rfl, hb3⟩
          have hB := hb1.trans (hb3.mono hb1.size)
          obtain ⟨k0, k1⟩ := var2 hB
          have f0 := (bcell hB).2 w.heap.size 0 (by simp)
          have f1 := (bcell hB).2 w.heap.size 1 (by simp)
          simp [go_sem] at f0 f1
          have B3 := BNH.out _ hB
          clear O1
          go_wp2
          refine bodyPost_ret (v := .agg #[.int .i64 (0), .int .i64 (mpC k (sumL zs) p 6)]) (by simp [results, Tryd.results16, go_sem, k0, k1]) rfl ⟨rfl, ?_⟩
          exact (B3.setCell (Nat.le_refl _) _).setCell (Nat.le_refl _) _
        · go_enter Tryd.func16, Tryd.ntmps16
          go_wp2_with (first | (go_at_call 58; refine (l7Key_any k _).mono ?_; rintro r u ⟨rfl, rfl⟩; rw [hk]) | (go_at_call 60; refine (l1All_any a c p _ h0 hl).mono ?_; rintro r u ⟨rfl, rfl⟩; rw [hA]))
          refine (LB.out _).mono ?_
          rintro r u1 ⟨a1, c1, rfl, O1, hb1⟩
          go_wp2_with fail
          refine (l2Sum_any a1 c1 zs _ (has_of_own O1 LW.out) (by omega)).mono ?_
          rintro r u2 ⟨rfl, rfl⟩
          go_wp2_with fail
          refine (CL.out _ _ (BNH.out _ hb1) SB).mono ?_
          rintro r u3 ⟨rfl, hb3⟩
          have hB := hb1.trans (hb3.mono hb1.size)
          obtain ⟨k0, k1⟩ := var2 hB
          have f0 := (bcell hB).2 w.heap.size 0 (by simp)
          have f1 := (bcell hB).2 w.heap.size 1 (by simp)
          simp [go_sem] at f0 f1
          have B3 := BNH.out _ hB
          clear O1
          go_wp2
          refine bodyPost_ret (v := .agg #[.int .i64 (0), .int .i64 (mpC k (sumL zs) p 6)]) (by simp [results, Tryd.results16, go_sem, k0, k1]) rfl ⟨rfl, ?_⟩
          exact (B3.setCell (Nat.le_refl _) _).setCell (Nat.le_refl _) _
    · have h6' : ((p.length : Int) != 6) = true := by simp; omega
      have e1 := clF_len hs h6
      rw [e1, bad 8 e1 (by decide)]
      clear bad e1 hs h6
      rcases ht with ⟨rfl, d2⟩ | ⟨rfl, rfl⟩
      · go_enter Tryd.func16, Tryd.ntmps16
        go_wp2_with (first | (go_at_call 58; refine (l7Key_any k _).mono ?_; rintro r u ⟨rfl, rfl⟩; rw [hk]) | (go_at_call 59; refine (l2Is_any v _).mono ?_; rintro r u ⟨rfl, rfl⟩; rw [d2]))
        refine bodyPost_ret (v := .agg #[.int .i64 (8), .int .i64 (0)]) (by simp [results, Tryd.results16, go_sem]) rfl ⟨rfl, ?_⟩
        repeat (first | exact Below.refl _ _ | refine Below.alloc ?_ (by (try simp) <;> omega) _ | refine Below.setCell ?_ (by (try simp) <;> omega) _)
      · go_enter Tryd.func16, Tryd.ntmps16
        go_wp2_with (first | (go_at_call 58; refine (l7Key_any k _).mono ?_; rintro r u ⟨rfl, rfl⟩; rw [hk]))
        refine bodyPost_ret (v := .agg #[.int .i64 (8), .int .i64 (0)]) (by simp [results, Tryd.results16, go_sem]) rfl ⟨rfl, ?_⟩
        repeat (first | exact Below.refl _ _ | refine Below.alloc ?_ (by (try simp) <;> omega) _ | refine Below.setCell ?_ (by (try simp) <;> omega) _)
  refine clF_ways (k := k) (v := v) (t := t) _ ?_ ?_ ?_ ?_ ?_
  · intro d1
    have e1 : clF k t v p = 3 := clF_key d1
    rw [e1, bad 3 e1 (by decide)]
    clear rest bad e1
    go_enter Tryd.func16, Tryd.ntmps16
    go_wp2_with (go_at_call 58; refine (l7Key_any k _).mono ?_; rintro r u ⟨rfl, rfl⟩; rw [d1])
    refine bodyPost_ret (v := .agg #[.int .i64 (3), .int .i64 (0)]) (by simp [results, Tryd.results16, go_sem]) rfl ⟨rfl, ?_⟩
    repeat (first | exact Below.refl _ _ | refine Below.alloc ?_ (by (try simp) <;> omega) _ | refine Below.setCell ?_ (by (try simp) <;> omega) _)
  · rintro d1 rfl d2
    have e1 : clF k true v p = 3 := clF_val d2
    rw [e1, bad 3 e1 (by decide)]
    clear rest bad e1
    go_enter Tryd.func16, Tryd.ntmps16
    go_wp2_with (first | (go_at_call 58; refine (l7Key_any k _).mono ?_; rintro r u ⟨rfl, rfl⟩; rw [d1]) | (go_at_call 59; refine (l2Is_any v _).mono ?_; rintro r u ⟨rfl, rfl⟩; rw [d2]))
    refine bodyPost_ret (v := .agg #[.int .i64 (3), .int .i64 (0)]) (by simp [results, Tryd.results16, go_sem]) rfl ⟨rfl, ?_⟩
    repeat (first | exact Below.refl _ _ | refine Below.alloc ?_ (by (try simp) <;> omega) _ | refine Below.setCell ?_ (by (try simp) <;> omega) _)
  · rintro d1 rfl d2
    have e1 : clF k false v p = 3 := clF_none d2
    rw [e1, bad 3 e1 (by decide)]
    have d2' : (v != 0) = true := by simpa using d2
    clear rest bad e1
    go_enter Tryd.func16, Tryd.ntmps16
    go_wp2_with (first | (go_at_call 58; refine (l7Key_any k _).mono ?_; rintro r u ⟨rfl, rfl⟩; rw [d1]))
    refine bodyPost_ret (v := .agg #[.int .i64 (3), .int .i64 (0)]) (by simp [results, Tryd.results16, go_sem]) rfl ⟨rfl, ?_⟩
    repeat (first | exact Below.refl _ _ | refine Below.alloc ?_ (by (try simp) <;> omega) _ | refine Below.setCell ?_ (by (try simp) <;> omega) _)
  · exact fun d1 h1 h2 h3 => rest h3 d1 (.inl ⟨h1, h2⟩)
  · exact fun d1 h1 h2 h3 => rest h3 d1 (.inr ⟨h1, h2⟩)

theorem specAcceptSlot_any (k v : Int) (t : Bool) (a : Option Addr) (c : Nat) (p : List Int) (root : Int) (w : World) (h : Has w .i64 a p.length p) (hl : p.length ≤ 1048576) :
    Calls Tryd.prog 18 #[.int .i64 k, .bool t, .int .i64 v, .slice a p.length c, .int .i64 root] w fun r w' => r = .returned (.bool (decide (clF k t v p = 0 ∧ clW k t v p = root))) ∧ Below w.heap.size w w' := by
  have CS : Hid (∀ u : World, Has u .i64 a p.length p → Calls Tryd.prog 16 #[.int .i64 k, .bool t, .int .i64 v, .slice a p.length c] u fun r w' => r = .returned (.agg #[.int .i64 (clF k t v p), .int .i64 (clW k t v p)]) ∧ Below u.heap.size u w') := fun u hu => specClimbSlot_any k v t a c p u hu hl
  generalize clF k t v p = cd at *
  generalize clW k t v p = x at *
  by_cases hc : cd = 0
  · have hc' : (cd == 0) = true := by simpa using hc
    have HC : Hid (cd = 0) := hc
    clear hc
    go_enter Tryd.func18, Tryd.ntmps18
    go_wp2_with fail
    refine (CS.out _ h).mono ?_
    rintro r u1 ⟨rfl, hb1⟩
    go_wp2
    go_ret
    exact ⟨ret_bool (by go_light; rw [Bool.eq_iff_iff]; simp [HC.out]), hb1.alloc hb1.size _⟩
  · have hc' : (cd == 0) = false := by simpa using hc
    have HC : Hid (¬ cd = 0) := hc
    clear hc
    go_enter Tryd.func18, Tryd.ntmps18
    go_wp2_with fail
    refine (CS.out _ h).mono ?_
    rintro r u1 ⟨rfl, hb1⟩
    go_wp2
    go_ret
    exact ⟨ret_bool (by simp [HC.out]), hb1.alloc hb1.size _⟩

/-- The codes and the values of a root, of a path. -/
def mrV (l : List Sl) : Int := if slF l = 0 then mpN l 6 0 else 0
def mpF (l : List Sl) (k : Int) : Int := if slF l = 0 then (if 0 ≤ k ∧ k ≤ 63 then 0 else 3) else slF l
def mpL (l : List Sl) (k : Int) : List Int := if slF l = 0 ∧ 0 ≤ k ∧ k ≤ 63 then mpP l k else []
theorem mpL_len (l : List Sl) (k : Int) : (mpL l k).length ≤ 6 := by unfold mpL; split; rw [mpP_len]; omega; simp
theorem mpL_wf (l : List Sl) (k : Int) : (mpL l k).length ≤ 1048576 ∧ ∀ n ∈ mpL l k, (Lit.int .i64 n).wf = true := by
  refine ⟨by have := mpL_len l k; omega, ?_⟩
  unfold mpL
  split
  · exact mpP_wf l k
  · simp
theorem nil_ownI (w : World) (base : Nat) : OwnI w base (.slice none 0 0) [] := ⟨rfl, .inl ⟨rfl, rfl⟩⟩

set_option maxHeartbeats 4000000 in
theorem specMapRoot_any (a : Option Addr) (c : Nat) (l : List Sl) (w : World) (h : HasS w a l) (hl : l.length ≤ 1048576) :
    Calls Tryd.prog 24 #[.slice a l.length c] w fun r w' => r = .returned (.agg #[.int .i64 (slF l), .int .i64 (mrV l)]) ∧ Below w.heap.size w w' := by
  have h0 := h.alloc (.cells #[.int .i64 0, .int .i64 0] 34)
  have B0 : Below w.heap.size w (w.alloc (.cells #[.int .i64 0, .int .i64 0] 34)) := (Below.refl _ _).alloc (Nat.le_refl _) _
  have LF : Hid (∀ u : World, HasS u a l → Calls Tryd.prog 64 #[.slice a l.length c] u fun r w' => r = .returned (.int .i64 (slF l)) ∧ Below u.heap.size u w') := fun u hu => l7Fault_any a c l u hu hl
  by_cases hc : slF l = 0
  · have e : mrV l = mpN l 6 0 := by unfold mrV; rw [if_pos hc]
    rw [e]
    have ok := (slF_zero hc).2.1
    have ND : Hid (∀ u : World, HasS u a l → Calls Tryd.prog 57 #[.slice a l.length c, .int .i64 0, .int .i64 64] u fun r w' => r = .returned (.int .i64 (mpN l 6 0)) ∧ Below u.heap.size u w') := fun u hu => l7Node_any a c l hl ok 6 0 64 u hu (by decide) (by decide) (by decide) (by decide)
    rw [hc] at LF ⊢
    generalize mpN l 6 0 = x at *
    clear hc e ok
    go_enter Tryd.func24, Tryd.ntmps24
    go_wp2_with fail
    refine (LF.out _ h0).mono ?_
    rintro r u1 ⟨rfl, hb1⟩
    have h1 := h0.below hb1 (Nat.le_refl _)
    go_wp2_with fail
    refine (ND.out _ h1).mono ?_
    rintro r u2 ⟨rfl, hb2⟩
    have hB := hb1.trans (hb2.mono hb1.size)
    obtain ⟨k0, k1⟩ := var2 hB
    have f0 := (bcell hB).2 w.heap.size 0 (by simp)
    have f1 := (bcell hB).2 w.heap.size 1 (by simp)
    simp [go_sem] at f0 f1
    have B3 := B0.trans (hB.mono (by simp))
    go_wp2
    refine bodyPost_ret (v := .agg #[.int .i64 (0), .int .i64 (x)]) (by simp [results, Tryd.results24, go_sem, k0, k1]) rfl ⟨rfl, ?_⟩
    exact (B3.setCell (Nat.le_refl _) _).setCell (Nat.le_refl _) _
  · have e : mrV l = 0 := by unfold mrV; rw [if_neg hc]
    rw [e]
    have hc' : (slF l != 0) = true := by simpa using hc
    generalize slF l = cc at *
    clear hc e
    go_enter Tryd.func24, Tryd.ntmps24
    go_wp2_with fail
    refine (LF.out _ h0).mono ?_
    rintro r u1 ⟨rfl, hb1⟩
    obtain ⟨k0, k1⟩ := var2 hb1
    have f0 := (bcell hb1).2 w.heap.size 0 (by simp)
    have f1 := (bcell hb1).2 w.heap.size 1 (by simp)
    simp [go_sem] at f0 f1
    have B3 := B0.trans (hb1.mono (by simp))
    go_wp2
    refine bodyPost_ret (v := .agg #[.int .i64 (cc), .int .i64 (0)]) (by simp [results, Tryd.results24, go_sem, k0, k1]) rfl ⟨rfl, ?_⟩
    exact (B3.setCell (Nat.le_refl _) _).setCell (Nat.le_refl _) _

set_option maxHeartbeats 4000000 in
theorem specMapPath_any (a : Option Addr) (c : Nat) (l : List Sl) (key : Int) (w : World) (h : HasS w a l) (hl : l.length ≤ 1048576) :
    Calls Tryd.prog 19 #[.slice a l.length c, .int .i64 key] w fun r w' => ∃ a1 c1, r = .returned (.agg #[.int .i64 (mpF l key), .slice a1 (mpL l key).length c1]) ∧ OwnI w' w.heap.size (.slice a1 (mpL l key).length c1) (mpL l key) ∧ Below w.heap.size w w' := by
  have h0 := h.alloc (.cells #[.int .i64 0, .slice none 0 0] 29)
  have B0 : Below w.heap.size w (w.alloc (.cells #[.int .i64 0, .slice none 0 0] 29)) := (Below.refl _ _).alloc (Nat.le_refl _) _
  have LF : Hid (∀ u : World, HasS u a l → Calls Tryd.prog 64 #[.slice a l.length c] u fun r w' => r = .returned (.int .i64 (slF l)) ∧ Below u.heap.size u w') := fun u hu => l7Fault_any a c l u hu hl
  by_cases hc : slF l = 0
  · have ok := (slF_zero hc).2.1
    by_cases hk : 0 ≤ key ∧ key ≤ 63
    · have d1 : decide (0 ≤ key ∧ key ≤ 63) = true := by simpa using hk
      have e1 : mpF l key = 0 := by unfold mpF; rw [if_pos hc, if_pos hk]
      have e2 : mpL l key = mpP l key := by unfold mpL; rw [if_pos ⟨hc, hk⟩]
      rw [e1, e2]
      have PT : Hid (∀ u : World, HasS u a l → Calls Tryd.prog 65 #[.slice a l.length c, .int .i64 key] u fun r w' => ∃ a' c', r = .returned (.slice a' (mpP l key).length c') ∧ OwnI w' u.heap.size (.slice a' (mpP l key).length c') (mpP l key) ∧ Below u.heap.size u w') := fun u hu => l7Path_any a c l key u hu hl ok hk.1 hk.2
      rw [hc] at LF
      generalize mpP l key = P at *
      clear hc e1 e2 ok hk
      go_enter Tryd.func19, Tryd.ntmps19
      go_wp2_with fail
      refine (LF.out _ h0).mono ?_
      rintro r u1 ⟨rfl, hb1⟩
      have h1 := h0.below hb1 (Nat.le_refl _)
      have z1 := hb1.size
      simp at z1
      go_wp2_with (go_at_call 58; refine (l7Key_any key _).mono ?_; rintro r u ⟨rfl, rfl⟩; rw [d1])
      refine (PT.out _ h1).mono ?_
      rintro r u2 ⟨a2, c2, rfl, O2, hb2⟩
      have hB := hb1.trans (hb2.mono hb1.size)
      obtain ⟨k0, k1⟩ := var2 hB
      have f0 := (bcell hB).2 w.heap.size 0 (by simp)
      have f1 := (bcell hB).2 w.heap.size 1 (by simp)
      simp [go_sem] at f0 f1
      have B3 := B0.trans (hB.mono (by simp))
      have O3 : Hid (OwnI u2 _ (.slice a2 P.length c2) P) := O2
      clear O2
      go_wp2
      refine bodyPost_ret (v := .agg #[.int .i64 0, .slice a2 P.length c2]) (by simp [results, Tryd.results19, go_sem, k0, k1]) rfl ⟨a2, c2, rfl, ?_, ?_⟩
      · exact own2_mono (own2_set (own2_set O3.out (by omega) _) (by omega) _) (by omega)
      · exact (B3.setCell (Nat.le_refl _) _).setCell (Nat.le_refl _) _
    · have d1 : decide (0 ≤ key ∧ key ≤ 63) = false := by simpa using hk
      have e1 : mpF l key = 3 := by unfold mpF; rw [if_pos hc, if_neg hk]
      have e2 : mpL l key = [] := by unfold mpL; rw [if_neg (fun e => hk e.2)]
      rw [e1, e2]
      rw [hc] at LF
      clear hc e1 e2 ok hk
      go_enter Tryd.func19, Tryd.ntmps19
      go_wp2_with fail
      refine (LF.out _ h0).mono ?_
      rintro r u1 ⟨rfl, hb1⟩
      obtain ⟨k0, k1⟩ := var2 hb1
      have f0 := (bcell hb1).2 w.heap.size 0 (by simp)
      have f1 := (bcell hb1).2 w.heap.size 1 (by simp)
      simp [go_sem] at f0 f1
      have B3 := B0.trans (hb1.mono (by simp))
      go_wp2_with (go_at_call 58; refine (l7Key_any key _).mono ?_; rintro r u ⟨rfl, rfl⟩; rw [d1])
      refine bodyPost_ret (v := .agg #[.int .i64 3, .slice none 0 0]) (by simp [results, Tryd.results19, go_sem, k0, k1]) rfl ⟨none, 0, rfl, nil_ownI _ _, ?_⟩
      exact (B3.setCell (Nat.le_refl _) _).setCell (Nat.le_refl _) _
  · have e1 : mpF l key = slF l := by unfold mpF; rw [if_neg hc]
    have e2 : mpL l key = [] := by unfold mpL; rw [if_neg (fun e => hc e.1)]
    rw [e1, e2]
    have hc' : (slF l != 0) = true := by simpa using hc
    generalize slF l = cc at *
    clear hc e1 e2
    go_enter Tryd.func19, Tryd.ntmps19
    go_wp2_with fail
    refine (LF.out _ h0).mono ?_
    rintro r u1 ⟨rfl, hb1⟩
    obtain ⟨k0, k1⟩ := var2 hb1
    have f0 := (bcell hb1).2 w.heap.size 0 (by simp)
    have f1 := (bcell hb1).2 w.heap.size 1 (by simp)
    simp [go_sem] at f0 f1
    have B3 := B0.trans (hb1.mono (by simp))
    go_wp2
    refine bodyPost_ret (v := .agg #[.int .i64 cc, .slice none 0 0]) (by simp [results, Tryd.results19, go_sem, k0, k1]) rfl ⟨none, 0, rfl, nil_ownI _ _, ?_⟩
    exact (B3.setCell (Nat.le_refl _) _).setCell (Nat.le_refl _) _

end Go.Proofs.YtjjddjohckcmbaaDoor
