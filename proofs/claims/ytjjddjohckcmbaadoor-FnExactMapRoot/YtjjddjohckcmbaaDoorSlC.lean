/- Contracts of the model of chapter 7: what a key has, the tree of slots, the way of a key, a climb. -/
import Derived.Test.YtjjddjohckcmbaaDoorSlG
import Derived.Test.YtjjddjohckcmbaaDoorSlD
import Derived.Test.YtjjddjohckcmbaaDoorSBytes
import Derived.Test.YtjjddjohckcmbaaDoorLvl
import Derived.Deep.DeepCutAuto
namespace Go.Proofs.YtjjddjohckcmbaaDoor
open Go.ChangeShapes Go.WideShapes Go.ChangeAt Go.RowKit
set_option linter.unusedVariables false
set_option linter.unusedSimpArgs false

/-- Bytes in memory of one's own. -/
abbrev OwnB (w : World) (base : Nat) (a : Option Addr) (c : Nat) (zs : List Int) : Prop := w.ownsRow base 5 1 (.slice a zs.length c) zs.length (zs.map (.int .u8))
theorem empty_own (w : World) : OwnB (w.alloc (.cells #[] 5)) w.heap.size (some ⟨w.heap.size, 0, none⟩) 0 [] := World.ownsRow_lit w #[] 0 (Nat.le_refl _) (Nat.zero_le _) rfl

set_option maxHeartbeats 1000000 in
theorem l7Bytes_any (k v : Int) (t : Bool) (w : World) (hk : 0 ≤ k ∧ k ≤ 63) (hv : 0 ≤ v ∧ v ≤ 65520) :
    Calls Tryd.prog 63 #[.int .i64 k, .bool t, .int .i64 v] w fun r w' => ∃ a' c', r = .returned (.slice a' (lfB k t v).length c') ∧ OwnB w' w.heap.size a' c' (lfB k t v) ∧ Below w.heap.size w w' := by
  unfold lfB
  cases t with
  | true =>
    simp only [if_true]
    go_enter Tryd.func63, Tryd.ntmps63
    go_wp2_with fail
    refine (l2Slot_any k v _ hk.1 hk.2 hv.1 (by omega)).mono ?_
    rintro r u1 ⟨a', c', rfl, hown, hb1⟩
    go_wp2
    go_ret
    exact ⟨a', c', rfl, hown, hb1⟩
  | false =>
    go_enter Tryd.func63, Tryd.ntmps63
    go_wp2
    go_ret
    exact ⟨_, _, rfl, empty_own w, (Below.refl _ _).alloc (Nat.le_refl _) _⟩

set_option maxHeartbeats 1000000 in
theorem l7Leaf_any (a : Option Addr) (c : Nat) (l : List Sl) (key : Int) (w : World) (h : HasS w a l) (hl : l.length ≤ 1048576) (hok : ∀ s ∈ l, slOk s = true) (hk : 0 ≤ key ∧ key ≤ 63) :
    Calls Tryd.prog 94 #[.slice a l.length c, .int .i64 key] w fun r w' => ∃ a' c', r = .returned (.slice a' (slLeaf l key).length c') ∧ OwnB w' w.heap.size a' c' (slLeaf l key) ∧ Below w.heap.size w w' := by
  have OK : Hid (∀ s ∈ l, slOk s = true) := hok
  clear hok
  have HL : Hid (slLeaf l key = match slFind l key with | none => [] | some v => slotL key v) := rfl
  go_enter Tryd.func94, Tryd.ntmps94
  go_wp2_with fail
  refine (l7At_any a c l key _ h hl).mono ?_
  rintro r u2 ⟨hr, rfl⟩
  have hgd : ∀ i (hi : i < l.length), l.getD i (0, 0) = l[i] := fun i hi => by rw [List.getD_eq_getElem?_getD, List.getElem?_eq_getElem hi]; rfl
  rcases hr with ⟨hn, rfl⟩ | ⟨i, hi, rfl, hs⟩
  · have e : slLeaf l key = [] := by rw [HL.out, hn]
    have HE : Hid (_) := e
    clear hn e hgd HL
    go_wp2
    go_ret
    exact ⟨_, _, by rw [HE.out]; rfl, by rw [HE.out]; exact empty_own _, (Below.refl _ _).alloc (Nat.le_refl _) _⟩
  · rw [hgd i hi] at hs
    have e : slLeaf l key = slotL key l[i].2 := by rw [HL.out, hs]
    have HE : Hid (_) := e
    clear hs e hgd HL
    have hi' : (i : Int) < (l.length : Int) := by omega
    have hn : ¬ (i : Int) < 0 := by omega
    have hv := (slOk_iff.1 (OK.out _ (List.getElem_mem hi))).2
    rcases h.cells with h0 | ⟨b, off, rfl, hb, hcell⟩
    · subst h0; simp at hi
    · have e2 := (hcell i hi).2
      clear hcell h
      generalize l[i].2 = v at *
      have LB : Hid (∀ u : World, Calls Tryd.prog 63 #[.int .i64 key, .bool true, .int .i64 v] u fun r w' => ∃ a' c', r = .returned (.slice a' (slotL key v).length c') ∧ OwnB w' u.heap.size a' c' (slotL key v) ∧ Below u.heap.size u w') := fun u => l7Bytes_any key v true u hk hv
      go_wp2_with fail
      refine (LB.out _).mono ?_
      rintro r u1 ⟨a', c', rfl, hown, hb1⟩
      go_wp2
      go_ret
      exact ⟨a', c', by rw [HE.out]; rfl, by rw [HE.out]; exact hown, hb1⟩

set_option maxHeartbeats 1000000 in
theorem l7Node_any (a : Option Addr) (c : Nat) (l : List Sl) (hl : l.length ≤ 1048576) (hok : ∀ s ∈ l, slOk s = true) (n : Nat) : ∀ (f S : Int) (w : World), HasS w a l → S = 2 ^ n → S ≤ 64 → 0 ≤ f → f + S ≤ 64 →
    Calls Tryd.prog 57 #[.slice a l.length c, .int .i64 f, .int .i64 S] w fun r w' => r = .returned (.int .i64 (mpN l n f)) ∧ Below w.heap.size w w' := by
  have OK : Hid (∀ s ∈ l, slOk s = true) := hok
  clear hok
  induction n with
  | zero =>
    intro f S w h hS h64 hf hfS
    obtain rfl : S = 1 := by rw [hS]; rfl
    clear hS
    unfold mpN
    have SW : Hid (∀ n ∈ slLeaf l f, (Lit.int .u8 n).wf = true) := slLeaf_wf OK.out ⟨hf, by omega⟩
    have SL : (slLeaf l f).length ≤ 4 := slLeaf_len l f
    have LL : Hid (∀ u : World, HasS u a l → Calls Tryd.prog 94 #[.slice a l.length c, .int .i64 f] u fun r w' => ∃ a' c', r = .returned (.slice a' (slLeaf l f).length c') ∧ OwnB w' u.heap.size a' c' (slLeaf l f) ∧ Below u.heap.size u w') := fun u hu => l7Leaf_any a c l f u hu hl OK.out ⟨hf, by omega⟩
    generalize slLeaf l f = zs at *
    go_enter Tryd.func57, Tryd.ntmps57
    go_wp2_with fail
    refine (LL.out _ h).mono ?_
    rintro r u1 ⟨a', c', rfl, hown, hb1⟩
    have H := has_of_own hown SW.out
    go_wp2_with fail
    refine (l2Sum_any a' c' zs _ H (by omega)).mono ?_
    rintro r u2 ⟨rfl, rfl⟩
    go_wp2
    go_ret
    exact ⟨rfl, hb1⟩
  | succ n ih =>
    intro f S w h hS h64 hf hfS
    obtain ⟨T, hT⟩ : ∃ T : Int, T = 2 ^ n := ⟨_, rfl⟩
    have hT1 : 1 ≤ T := by
      have : (0 : Int) < 2 ^ n := Int.pow_pos (by omega)
      omega
    have hST : S = 2 * T := by rw [hS, hT, Int.pow_succ]; omega
    have HT : Hid (T = 2 ^ n) := hT
    unfold mpN
    rw [← hT]
    clear hT hS
    subst hST
    have hq : (2 * T) / 2 = T := by omega
    have hne : (2 * T == 1) = false := by simp; omega
    have IH1 : Hid (∀ u : World, HasS u a l → Calls Tryd.prog 57 #[.slice a l.length c, .int .i64 f, .int .i64 T] u fun r w' => r = .returned (.int .i64 (mpN l n f)) ∧ Below u.heap.size u w') := fun u hu => ih f T u hu HT.out (by omega) hf (by omega)
    have IH2 : Hid (∀ u : World, HasS u a l → Calls Tryd.prog 57 #[.slice a l.length c, .int .i64 (f + T), .int .i64 T] u fun r w' => r = .returned (.int .i64 (mpN l n (f + T))) ∧ Below u.heap.size u w') := fun u hu => ih (f + T) T u hu HT.out (by omega) (by omega) (by omega)
    have b1 := mpN_bd l n f
    have b2 := mpN_bd l n (f + T)
    clear ih HT
    generalize mpN l n f = x at *
    generalize mpN l n (f + T) = y at *
    go_enter Tryd.func57, Tryd.ntmps57
    go_wp2_with fail
    refine (IH1.out _ h).mono ?_
    rintro r u1 ⟨rfl, hb1⟩
    go_wp2_with fail
    refine (IH2.out _ (h.below hb1 (Nat.le_refl _))).mono ?_
    rintro r u2 ⟨rfl, hb2⟩
    have B2 := hb1.trans (hb2.mono hb1.size)
    go_wp2_with fail
    refine (l2NodeSum_any x y _ b1.1 (by omega) b2.1 (by omega)).mono ?_
    rintro r u3 ⟨rfl, hb3⟩
    go_wp2
    go_ret
    exact ⟨rfl, B2.trans (hb3.mono B2.size)⟩

end Go.Proofs.YtjjddjohckcmbaaDoor
