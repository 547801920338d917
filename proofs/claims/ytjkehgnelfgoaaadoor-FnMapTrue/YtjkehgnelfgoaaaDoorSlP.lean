/- Contracts of the model of chapter 7: the way of a key, a climb, the root. -/
import Derived.Test.YtjkehgnelfgoaaaDoorSlC
import Derived.Test.YtjkehgnelfgoaaaDoorSplit
import Derived.Test.YtjkehgnelfgoaaaDoorLvl
namespace Go.Proofs.YtjkehgnelfgoaaaDoor
open Go.ChangeShapes Go.WideShapes Go.ChangeAt Go.RowKit
set_option linter.unusedVariables false
set_option linter.unusedSimpArgs false

theorem one7 (w : World) (x : Value) (T : Nat) : ∀ (j : Nat) (u : Value), [x][j]? = some u → (w.alloc (.cells #[x] T)).cell? ((⟨w.heap.size, 0, none⟩ : Addr).add j) = some u := by
  intro j u hj
  match j, hj with
  | 0, hj => simp at hj; subst hj; simp [Addr.add]
/-- Numbers in memory of one's own. -/
abbrev OwnI (w : World) (base : Nat) (v : Value) (zs : List Int) : Prop := w.ownsRow base 2 1 v zs.length (zs.map (.int .i64))
theorem mpP_snoc (l : List Sl) (k : Int) {j : Nat} (h : j < 6) : (mpP l k).take (j + 1) = (mpP l k).take j ++ [mpS l k j] := by
  have hl := mpP_len l k
  rw [List.take_succ_eq_append_getElem (by omega)]
  congr 1
  have := mpP_get l k h
  rw [List.getD_eq_getElem?_getD, List.getElem?_eq_getElem (by omega)] at this
  simpa using this
theorem mpP_bd (l : List Sl) (k : Int) : ∀ n ∈ mpP l k, 0 ≤ n ∧ n ≤ 65520 := by
  intro n hn
  unfold mpP at hn
  simp only [List.mem_map] at hn
  obtain ⟨i, _, rfl⟩ := hn
  exact mpS_bd l k i
theorem mpP_wf (l : List Sl) (k : Int) : ∀ n ∈ mpP l k, (Lit.int .i64 n).wf = true := fun n hn => WalkArith.wf_i64 (by have := mpP_bd l k n hn; omega)
theorem mpP_all (l : List Sl) (k : Int) : allS (mpP l k) = true := by
  unfold allS
  rw [List.all_eq_true]
  intro n hn
  have := mpP_bd l k n hn
  simpa using this
theorem path_facts {k : Int} {j : Nat} (hj : j < 6) (h0 : 0 ≤ k) (h1 : k ≤ 63) : (0 < (2 : Int) ^ j ∧ (2 : Int) ^ j ≤ 32) ∧ (0 ≤ k / 2 ^ j ∧ k / 2 ^ j ≤ 63) ∧ (0 ≤ k / 2 ^ j * 2 ^ j ∧ k / 2 ^ j * 2 ^ j ≤ 63) ∧ k / 2 ^ j * 2 ^ j / 2 ^ j = k / 2 ^ j ∧ (k / 2 ^ j % 2 = 0 → k / 2 ^ j * 2 ^ j + 2 ^ j + 2 ^ j ≤ 64) ∧ (¬ k / 2 ^ j % 2 = 0 → 0 ≤ k / 2 ^ j * 2 ^ j - 2 ^ j) := by
  have : j = 0 ∨ j = 1 ∨ j = 2 ∨ j = 3 ∨ j = 4 ∨ j = 5 := by omega
  rcases this with rfl | rfl | rfl | rfl | rfl | rfl <;> refine ⟨⟨by decide, by decide⟩, ?_⟩ <;> simp <;> omega
theorem pow_lt {j : Nat} (h : j ≤ 6) : ((2 : Int) ^ j < 64 ↔ j < 6) ∧ (2 : Int) ^ j ≤ 64 ∧ (2 : Int) ^ (j + 1) = 2 * 2 ^ j := by
  have : j = 0 ∨ j = 1 ∨ j = 2 ∨ j = 3 ∨ j = 4 ∨ j = 5 ∨ j = 6 := by omega
  rcases this with rfl | rfl | rfl | rfl | rfl | rfl | rfl <;> decide

set_option maxRecDepth 100000 in
set_option maxHeartbeats 4000000 in
theorem l7Path_any (a : Option Addr) (c : Nat) (l : List Sl) (key : Int) (w : World) (h : HasS w a l) (hl : l.length ≤ 1048576) (hok : ∀ s ∈ l, slOk s = true) (hk0 : 0 ≤ key) (hk1 : key ≤ 63) :
    Calls Tryd.prog 57 #[.slice a l.length c, .int .i64 key] w fun r w' => ∃ a' c', r = .returned (.slice a' (mpP l key).length c') ∧ OwnI w' w.heap.size (.slice a' (mpP l key).length c') (mpP l key) ∧ Below w.heap.size w w' := by
  obtain ⟨i0, hi, hz0, hz1, hz2⟩ := info_parts info64
  have hown0 : (w.alloc (.cells #[] 2)).ownsRow w.heap.size 2 1 (.slice (some ⟨w.heap.size, 0, none⟩) 0 0) 0 [] := World.ownsRow_lit w #[] 0 (Nat.le_refl _) (Nat.zero_le _) rfl
  have OI0 : OwnI (w.alloc (.cells #[] 2)) w.heap.size (.slice (some ⟨w.heap.size, 0, none⟩) 0 0) ((mpP l key).take 0) := hown0
  have B0 : Below w.heap.size w (w.alloc (.cells #[] 2)) := (Below.refl _ _).alloc (Nat.le_refl _) _
  have ND : Hid (∀ (n : Nat) (f S : Int) (u : World), Below w.heap.size w u → S = 2 ^ n → S ≤ 64 → 0 ≤ f → f + S ≤ 64 → Calls Tryd.prog 49 #[.slice a l.length c, .int .i64 f, .int .i64 S] u fun r w' => r = .returned (.int .i64 (mpN l n f)) ∧ Below u.heap.size u w') := fun n f S u hu => l7Node_any a c l hl hok n f S u (h.below hu (Nat.le_refl _))
  have SN : Hid (∀ j, j < 6 → (mpP l key).take (j + 1) = (mpP l key).take j ++ [mpS l key j]) := fun j hj => mpP_snoc l key hj
  have EN : Hid ((mpP l key).take 6 = mpP l key) := by show _ = _; rw [List.take_of_length_le]; rw [mpP_len]; omega
  have LE : Hid (∀ j, j ≤ 6 → ((mpP l key).take j).length = j) := fun j hj => by rw [List.length_take, mpP_len]; omega
  have MS : Hid (∀ j, mpS l key j = if key / 2 ^ j % 2 = 0 then mpN l j (key / 2 ^ j * 2 ^ j + 2 ^ j) else mpN l j (key / 2 ^ j * 2 ^ j - 2 ^ j)) := fun j => rfl
  generalize mpP l key = P at *
  clear h hok hown0
  go_enter Tryd.func57, Tryd.ntmps57
  go_wp2
  go_loopw [5, 6] (fun v ss wr => ∃ (j : Nat) (S : Int), j ≤ 6 ∧ S = 2 ^ j ∧ ss = .int .i64 S ∧ OwnI wr w.heap.size v (P.take j) ∧ Below w.heap.size w wr) (fun _ ss _ => (64 - intOf ss).toNat)
  case atStart => exact ⟨0, 1, Nat.zero_le _, rfl, rfl, OI0, B0⟩
  case round =>
    clear OI0 B0
    obtain ⟨j, S, hj, hS, rfl, hO, hbel⟩ := hrel
    obtain ⟨va, vc, rfl, _, _⟩ := own2_shape hO
    obtain ⟨p1, p2, p3⟩ := pow_lt hj
    have hlj := LE.out j hj
    have hlm : min j P.length = j := by rw [← List.length_take]; exact hlj
    have zr := hbel.size
    rw [← hS] at p1 p2 p3
    by_cases hlt : j < 6
    · have hS64 : S < 64 := p1.2 hlt
      obtain ⟨⟨f1, f2⟩, ⟨f3, f4⟩, ⟨f5, f6⟩, f7, f8, f9⟩ := path_facts hlt hk0 hk1
      have hms := MS.out j
      have NJ : Hid (∀ (f : Int) (u : World), Below w.heap.size w u → 0 ≤ f → f + S ≤ 64 → Calls Tryd.prog 49 #[.slice a l.length c, .int .i64 f, .int .i64 S] u fun r w' => r = .returned (.int .i64 (mpN l j f)) ∧ Below u.heap.size u w') := fun f u hu => ND.out j f S u hu hS (by omega)
      have SNJ := SN.out j hlt
      rw [← hS] at f1 f2 f3 f4 f5 f6 f7 f8 f9 hms
      have HP3 : Hid ((2 : Int) ^ (j + 1) = 2 * S) := p3
      clear p1 p2 p3 hS MS ND SN EN LE
      obtain ⟨Q, hQ⟩ : ∃ Q, key / S = Q := ⟨_, rfl⟩
      rw [hQ] at f3 f4 f5 f6 f7 f8 f9 hms
      obtain ⟨F, hF⟩ : ∃ F, Q * S = F := ⟨_, rfl⟩
      rw [hF] at f5 f6 f7 f8 f9 hms
      by_cases hp : Q % 2 = 0
      · have hp' : (Q % 2 == 0) = true := by simpa using hp
        have g := f8 hp
        rw [if_pos hp] at hms
        rw [hms] at SNJ
        have ms2 : 2 * S ≤ 64 := by omega
        have HSN : Hid (P.take (j + 1) = P.take j ++ [mpN l j (F + S)]) := SNJ
        have NL : Hid (∀ u : World, Below w.heap.size w u → Calls Tryd.prog 49 #[.slice a l.length c, .int .i64 (F + S), .int .i64 S] u fun r w' => r = .returned (.int .i64 (mpN l j (F + S))) ∧ Below u.heap.size u w') := fun u hu => NJ.out (F + S) u hu (by omega) (by omega)
        clear hp SNJ hms f8 f9 NJ
        generalize mpN l j (F + S) = x at *
        go_wp2_with fail
        refine (NL.out _ hbel).mono ?_
        rintro r u1 ⟨rfl, hb1⟩
        have O1 : World.ownsRow u1 w.heap.size 2 1 (.slice va j vc) j ((P.take j).map (.int .i64)) := by
          have := own2_below hO hb1
          rw [hlj] at this
          exact this
        have B1 := hbel.trans (hb1.mono zr)
        have z1 := B1.size
        clear hO hb1
        go_wp2_with (at_builtin; (refine wpList_append_own _ rfl _ _ 27 rfl w.heap.size 2 i0 (.int .i64 0) 1 8 Tryd.underlying27 hi hz0 hz1 hz2 rfl (by decide) _ (j) _ rfl (O1.alloc _) ⟨u1.heap.size, 0, none⟩ 1 1 [.int .i64 (x)] rfl rfl (one7 _ _ _) (by intro u hu; simp at hu; subst hu; rfl) (by unfold maxLen; omega) (by omega) (by simp; omega) ?_; intro v3 w3 hn3 hg3 h43))
        have B3 : Below w.heap.size w w3 := (B1.alloc z1 _).trans ((Below.refl _ _).grown hg3 (by simp; omega) (fun k hk => (O1.lt k hk).1))
        have O3 : OwnI w3 w.heap.size v3 (P.take (j + 1)) := by
          rw [HSN.out]
          show World.ownsRow w3 _ _ 1 v3 (P.take j ++ [x]).length _
          rw [List.length_append, hlj]
          simpa using hn3
        have OH : Hid (OwnI w3 w.heap.size v3 (P.take (j + 1))) := O3
        clear hn3 hg3 h43 O3 O1
        go_wp2
        go_roundw
        case rel => exact ⟨j + 1, 2 * S, by omega, HP3.out.symm, rfl, OH.out, B3⟩
        case measure => simp [intOf]; omega
      · have hp' : (Q % 2 == 0) = false := by simpa using hp
        have g := f9 hp
        rw [if_neg hp] at hms
        rw [hms] at SNJ
        have ms2 : 2 * S ≤ 64 := by omega
        have HSN : Hid (P.take (j + 1) = P.take j ++ [mpN l j (F - S)]) := SNJ
        have NL : Hid (∀ u : World, Below w.heap.size w u → Calls Tryd.prog 49 #[.slice a l.length c, .int .i64 (F - S), .int .i64 S] u fun r w' => r = .returned (.int .i64 (mpN l j (F - S))) ∧ Below u.heap.size u w') := fun u hu => NJ.out (F - S) u hu (by omega) (by omega)
        clear hp SNJ hms f8 f9 NJ
        generalize mpN l j (F - S) = x at *
        go_wp2_with fail
        refine (NL.out _ hbel).mono ?_
        rintro r u1 ⟨rfl, hb1⟩
        have O1 : World.ownsRow u1 w.heap.size 2 1 (.slice va j vc) j ((P.take j).map (.int .i64)) := by
          have := own2_below hO hb1
          rw [hlj] at this
          exact this
        have B1 := hbel.trans (hb1.mono zr)
        have z1 := B1.size
        clear hO hb1
        go_wp2_with (at_builtin; (refine wpList_append_own _ rfl _ _ 27 rfl w.heap.size 2 i0 (.int .i64 0) 1 8 Tryd.underlying27 hi hz0 hz1 hz2 rfl (by decide) _ (j) _ rfl (O1.alloc _) ⟨u1.heap.size, 0, none⟩ 1 1 [.int .i64 (x)] rfl rfl (one7 _ _ _) (by intro u hu; simp at hu; subst hu; rfl) (by unfold maxLen; omega) (by omega) (by simp; omega) ?_; intro v3 w3 hn3 hg3 h43))
        have B3 : Below w.heap.size w w3 := (B1.alloc z1 _).trans ((Below.refl _ _).grown hg3 (by simp; omega) (fun k hk => (O1.lt k hk).1))
        have O3 : OwnI w3 w.heap.size v3 (P.take (j + 1)) := by
          rw [HSN.out]
          show World.ownsRow w3 _ _ 1 v3 (P.take j ++ [x]).length _
          rw [List.length_append, hlj]
          simpa using hn3
        have OH : Hid (OwnI w3 w.heap.size v3 (P.take (j + 1))) := O3
        clear hn3 hg3 h43 O3 O1
        go_wp2
        go_roundw
        case rel => exact ⟨j + 1, 2 * S, by omega, HP3.out.symm, rfl, OH.out, B3⟩
        case measure => simp [intOf]; omega
    · obtain rfl : j = 6 := by omega
      have hS64 : ¬ S < 64 := fun e => hlt (p1.1 e)
      have hE := EN.out
      rw [hE] at hO
      have HL : Hid (min 6 P.length = P.length) := by show _ = _; rw [← List.length_take, hE]
      have OH : Hid (OwnI wr w.heap.size (.slice va P.length vc) P) := hO
      clear hO hE p1 p2 p3 hS hlj hlm SN EN LE MS ND
      go_wp2
      go_ret
      exact ⟨va, vc, by rw [HL.out]; rfl, OH.out, hbel⟩

set_option maxRecDepth 100000 in
set_option maxHeartbeats 4000000 in
theorem l7Climb_any (a : Option Addr) (c : Nat) (p : List Int) (key leaf : Int) (w : World) (h : Has w .i64 a p.length p) (hp6 : p.length ≤ 6) (hall : allS p = true) (hk0 : 0 ≤ key) (hk1 : key ≤ 63) (hf : 0 ≤ leaf ∧ leaf ≤ 65520) :
    Calls Tryd.prog 53 #[.int .i64 key, .int .i64 leaf, .slice a p.length c] w fun r w' => r = .returned (.int .i64 (mpC key leaf p p.length)) ∧ Below w.heap.size w w' := by
  have AL : Hid (allS p = true) := hall
  have HF : Hid (0 ≤ leaf ∧ leaf ≤ 65520) := hf
  clear hall hf
  rcases h.2.2 with h0 | ⟨b, off, rfl, hb, hcell⟩
  · obtain rfl : p = [] := List.eq_nil_of_length_eq_zero h0
    clear h0
    simp only [List.length_nil]
    go_enter Tryd.func53, Tryd.ntmps53
    go_wp2
    refine wp_loop_rounds 1 ?_
    rw [rounds_succ]
    go_wp2
    go_ret
    exact ⟨rfl, Below.refl _ _⟩
  · clear h
    go_enter Tryd.func53, Tryd.ntmps53
    go_wp2
    go_loopw [1, 7] (fun v i wr => ∃ j : Nat, j ≤ p.length ∧ i = .int .i64 j ∧ v = .int .i64 (mpC key leaf p j) ∧ Below w.heap.size w wr) (fun _ i _ => p.length - (intOf i).toNat)
    case atStart => exact ⟨0, Nat.zero_le _, rfl, rfl, Below.refl _ _⟩
    case round =>
      obtain ⟨j, hj, rfl, rfl, hbel⟩ := hrel
      have zr := hbel.size
      by_cases hlt : j < p.length
      · have hlt' : (j : Int) < (p.length : Int) := by omega
        obtain ⟨_, ⟨f3, f4⟩, _, _, _, _⟩ := path_facts (show j < 6 by omega) hk0 hk1
        have e1 : wr.cell? ⟨b, off + j, none⟩ = some (.int .i64 (p.getD j 0)) := (hbel.cell (p := ⟨b, off + j, none⟩) hb).trans (hcell j hlt)
        have bp := getD_bd AL.out j
        have bc := mpC_bd key p HF.out j
        have HC : Hid (mpC key leaf p (j + 1) = if key / 2 ^ j % 2 = 0 then nS (mpC key leaf p j) (p.getD j 0) else nS (p.getD j 0) (mpC key leaf p j)) := rfl
        generalize p.getD j 0 = y at *
        generalize mpC key leaf p j = x at *
        obtain ⟨Q, hQ⟩ : ∃ Q, key / 2 ^ j = Q := ⟨_, rfl⟩
        rw [hQ] at f3 f4 HC
        have NS : Hid (∀ (x y : Int) (u : World), 0 ≤ x ∧ x ≤ 65520 → 0 ≤ y ∧ y ≤ 65520 → Calls Tryd.prog 86 #[.int .i64 x, .int .i64 y] u fun r w' => r = .returned (.int .i64 (nS x y)) ∧ Below u.heap.size u w') := fun x y u h1 h2 => l2NodeSum_any x y u h1.1 (by omega) h2.1 (by omega)
        clear hcell
        by_cases hp : Q % 2 = 0
        · have hp' : (Q % 2 == 0) = true := by simpa using hp
          have HC2 : Hid (mpC key leaf p (j + 1) = nS x y) := by show _ = _; rw [HC.out, if_pos hp]
          clear hp HC
          go_wp2_with fail
          refine (NS.out x y _ bc bp).mono ?_
          rintro r u1 ⟨rfl, hb1⟩
          have B1 := hbel.trans (hb1.mono zr)
          go_wp2
          go_roundw
          case rel => exact ⟨j + 1, by omega, by go_num, by rw [HC2.out], B1⟩
          case measure => simp [intOf]; omega
        · have hp' : (Q % 2 == 0) = false := by simpa using hp
          have HC2 : Hid (mpC key leaf p (j + 1) = nS y x) := by show _ = _; rw [HC.out, if_neg hp]
          clear hp HC
          go_wp2_with fail
          refine (NS.out y x _ bp bc).mono ?_
          rintro r u1 ⟨rfl, hb1⟩
          have B1 := hbel.trans (hb1.mono zr)
          go_wp2
          go_roundw
          case rel => exact ⟨j + 1, by omega, by go_num, by rw [HC2.out], B1⟩
          case measure => simp [intOf]; omega
      · have hjj : j = p.length := by omega
        have HK : Hid (j = p.length) := hjj
        clear hjj
        go_wp2
        go_ret
        exact ⟨ret_int (by rw [HK.out]), hbel⟩

end Go.Proofs.YtjkehgnelfgoaaaDoor
