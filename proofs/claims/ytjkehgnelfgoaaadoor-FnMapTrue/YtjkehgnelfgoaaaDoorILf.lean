/- Contracts: the program's leaves of a map, and their sums. -/
import Derived.Test.YtjkehgnelfgoaaaDoorMapI
import Derived.Test.YtjkehgnelfgoaaaDoorSlC
import Derived.Test.YtjkehgnelfgoaaaDoorISums
import Derived.Test.YtjkehgnelfgoaaaDoorLvR
import Derived.Test.YtjkehgnelfgoaaaDoorSlP
namespace Go.Proofs.YtjkehgnelfgoaaaDoor
open Go.ChangeShapes Go.WideShapes Go.ChangeAt Go.RowKit
set_option linter.unusedVariables false
set_option linter.unusedSimpArgs false

open Go.Maps (Keyed int_keyed keyOf_int_mk)
theorem nil_ownB (w : World) (base : Nat) : OwnB w base none 0 [] := ⟨rfl, .inl ⟨rfl, rfl⟩⟩

set_option maxHeartbeats 1000000 in
theorem leafOf_any (k v : Int) (t : Bool) (w : World) (hT : Tab w) (hk : 0 ≤ k ∧ k ≤ 63) (hv : t = true → 0 ≤ v ∧ v ≤ 65520) :
    Calls Tryd.prog 82 #[.int .i64 k, .bool t, .int .i64 v] w fun r w' => ∃ a' c', r = .returned (.slice a' (lfB k t v).length c') ∧ OwnB w' w.heap.size a' c' (lfB k t v) ∧ Below w.heap.size w w' := by
  unfold lfB
  cases t with
  | true =>
    have hv2 := hv rfl
    clear hv
    simp only [if_true]
    go_enter Tryd.func82, Tryd.ntmps82
    go_wp2_with fail
    refine (implSlotBytes_any k v _ hT hk.1 hk.2 hv2.1 (by omega)).mono ?_
    rintro r u1 ⟨a', c', rfl, hown, hb1⟩
    go_wp2
    go_ret
    exact ⟨a', c', rfl, hown, hb1⟩
  | false =>
    go_enter Tryd.func82, Tryd.ntmps82
    go_wp2
    go_ret
    exact ⟨none, 0, rfl, nil_ownB _ _, Below.refl _ _⟩

set_option maxHeartbeats 2000000 in
theorem leaf_any (b n s : Nat) (D : DataW Unit) (l : List Sl) (key : Int) (w : World) (hT : Tab w) (hown : World.ownsMap w Tryd.prog 2 (plainElem (H := Unit) Tryd.prog 2) b n D) (hmd : MapD D (slFind l) s) (hok : ∀ s ∈ l, slOk s = true) (hk : 0 ≤ key ∧ key ≤ 63) :
    Calls Tryd.prog 77 #[.map (some b), .int .i64 key] w fun r w' => ∃ a' c', r = .returned (.slice a' (slLeaf l key).length c') ∧ OwnB w' w.heap.size a' c' (slLeaf l key) ∧ Below w.heap.size w w' := by
  have hkey := keyOf_int_mk Tryd.underlying2 (show (Lit.int .i64 key).wf = true from WalkArith.wf_i64 (by omega))
  have hh := hmd.has key
  have hvv := hmd.val key
  clear hmd
  cases e : slFind l key with
  | none =>
    have EL : slLeaf l key = [] := by unfold slLeaf; rw [e]
    rw [e] at hh
    simp only [Option.isSome_none] at hh
    rw [EL]
    have LO : Hid (∀ (v : Int) (u : World), Tab u → Calls Tryd.prog 82 #[.int .i64 key, .bool false, .int .i64 v] u fun r w' => ∃ a' c', r = .returned (.slice a' ([] : List Int).length c') ∧ OwnB w' u.heap.size a' c' [] ∧ Below u.heap.size u w') := fun v u hu => leafOf_any key v false u hu hk (by simp)
    clear hvv e EL hok
    go_enter Tryd.func77, Tryd.ntmps77
    go_wp2_with (first | (at_lookup; refine wpList_lookup_own_ok_int _ rfl _ _ 76 rfl 2 2 .i64 mapLaw Tryd.underlying76 Tryd.underlying2 (mapZero _) b n D rfl hown _ _ rfl hkey ?_; intro c' hat hwc; rw [hh]) | fail)
    refine (LO.out _ _ hT).mono ?_
    rintro r u1 ⟨a', c', rfl, O, hb1⟩
    go_wp2
    go_ret
    exact ⟨a', c', rfl, O, hb1⟩
  | some v =>
    have hvv := hvv v e
    have hv := (slOk_iff.1 (hok _ (slFind_mem e))).2
    have EL : slLeaf l key = slotL key v := by unfold slLeaf; rw [e]
    rw [e] at hh
    simp only [Option.isSome_some] at hh
    rw [EL]
    have LO : Hid (∀ (u : World), Tab u → Calls Tryd.prog 82 #[.int .i64 key, .bool true, .int .i64 v] u fun r w' => ∃ a' c', r = .returned (.slice a' (slotL key v).length c') ∧ OwnB w' u.heap.size a' c' (slotL key v) ∧ Below u.heap.size u w') := fun u hu => leafOf_any key v true u hu hk (fun _ => hv)
    clear e EL hok
    go_enter Tryd.func77, Tryd.ntmps77
    go_wp2_with (first | (at_lookup; refine wpList_lookup_own_ok_int _ rfl _ _ 76 rfl 2 2 .i64 mapLaw Tryd.underlying76 Tryd.underlying2 (mapZero _) b n D rfl hown _ _ rfl hkey ?_; intro c' hat hwc; rw [hh]; obtain rfl : v = c' := (by rw [hvv] at hat; simpa using hat)) | fail)
    refine (LO.out _ hT).mono ?_
    rintro r u1 ⟨a', c', rfl, O, hb1⟩
    go_wp2
    go_ret
    exact ⟨a', c', rfl, O, hb1⟩

theorem fldI7 (x y : Int) (w : World) : (Instr.field 34 (.agg #[.int .i64 x, .int .i64 y]) 1).run Tryd.prog w = .ok (.int .i64 y) w := by kernel_rfl
theorem lvR_snoc (l : List Sl) (k : Nat) : lvR l 0 (k + 1) = lvR l 0 k ++ [mpN l 0 (k : Int)] := by
  unfold lvR
  rw [List.range_succ, List.map_append]
  simp

set_option maxRecDepth 100000 in
set_option maxHeartbeats 4000000 in
theorem leafSums_any (b n s : Nat) (D : DataW Unit) (l : List Sl) (w : World) (hT : Tab w) (hown : World.ownsMap w Tryd.prog 2 (plainElem (H := Unit) Tryd.prog 2) b n D) (hmd : MapD D (slFind l) s) (hok : ∀ s ∈ l, slOk s = true) :
    Calls Tryd.prog 78 #[.map (some b)] w fun r w' => ∃ a' c', r = .returned (.slice a' 64 c') ∧ OwnI w' w.heap.size (.slice a' 64 c') (lvR l 0 64) ∧ Below w.heap.size w w' := by
  obtain ⟨i0, hi, hz0, hz1, hz2⟩ := info_parts info64
  have hb := hown.lt
  have F1 := fldI7
  have nil0 : World.ownsRow w w.heap.size 2 1 (.slice none 0 0) 0 ((lvR l 0 0).map (.int .i64)) := ⟨rfl, .inl ⟨rfl, rfl⟩⟩
  have LF : Hid (∀ (k : Nat) (u : World), k < 64 → Below w.heap.size w u → Calls Tryd.prog 77 #[.map (some b), .int .i64 k] u fun r w' => ∃ a' c', r = .returned (.slice a' (slLeaf l k).length c') ∧ OwnB w' u.heap.size a' c' (slLeaf l k) ∧ Below u.heap.size u w') := fun k u hk hu => leaf_any b n s D l k u (hT.below hu (Nat.le_refl _)) (owns_below hown hu hb) hmd hok ⟨by omega, by omega⟩
  have LW : Hid (∀ k : Nat, k < 64 → ∀ n ∈ slLeaf l k, (Lit.int .u8 n).wf = true) := fun k hk => slLeaf_wf hok ⟨by omega, by omega⟩
  have LL : Hid (∀ k : Nat, (slLeaf l k).length ≤ 4) := fun k => slLeaf_len l k
  have SN : Hid (∀ k : Nat, lvR l 0 (k + 1) = lvR l 0 k ++ [sumL (slLeaf l k)]) := fun k => lvR_snoc l k
  have EN : Hid (∀ k : Nat, (lvR l 0 k).length = k) := fun k => lvR_len l 0 k
  clear hown hmd hok hT
  go_enter Tryd.func78, Tryd.ntmps78
  go_wp2
  go_loopw [3, 5] (fun v i wr => ∃ (k : Nat) (a' : Option Addr) (c' : Nat), k ≤ 64 ∧ i = .int .i64 k ∧ v = .slice a' k c' ∧ World.ownsRow wr w.heap.size 2 1 (.slice a' k c') k ((lvR l 0 k).map (.int .i64)) ∧ Below w.heap.size w wr) (fun _ i _ => 64 - (intOf i).toNat)
  case atStart => exact ⟨0, none, 0, Nat.zero_le _, rfl, rfl, nil0, Below.refl _ _⟩
  case round =>
    clear nil0
    obtain ⟨k, va, vc, hk, rfl, rfl, hO, hbel⟩ := hrel
    have zr := hbel.size
    by_cases hlt : k < 64
    · have hlt' : (k : Int) < 64 := by omega
      have hsn := SN.out k
      have LFk : Hid (∀ (u : World), Below w.heap.size w u → Calls Tryd.prog 77 #[.map (some b), .int .i64 k] u fun r w' => ∃ a' c', r = .returned (.slice a' (slLeaf l k).length c') ∧ OwnB w' u.heap.size a' c' (slLeaf l k) ∧ Below u.heap.size u w') := fun u hu => LF.out k u hlt hu
      have LWk : Hid (∀ n ∈ slLeaf l k, (Lit.int .u8 n).wf = true) := LW.out k hlt
      have hl4 := LL.out (k : Nat)
      have HSN : Hid (lvR l 0 (k + 1) = lvR l 0 k ++ [sumL (slLeaf l k)]) := hsn
      clear hsn SN LF LW LL
      generalize slLeaf l (k : Int) = zs at *
      go_wp2_with fail
      refine (LFk.out _ hbel).mono ?_
      rintro r u1 ⟨a1, c1, rfl, O1, hb1⟩
      have e1 : sumC zs = 0 := by unfold sumC; rw [if_neg (by omega)]
      have e2 : sumV zs = sumL zs := by unfold sumV; rw [if_neg (by omega)]
      have B1 := hbel.trans (hb1.mono zr)
      have H1 := has_of_own O1 LWk.out
      clear O1
      go_wp2_with fail
      refine (implSumOf_any a1 c1 zs _ H1 (by omega)).mono ?_
      rw [e1, e2]
      rintro r u2 ⟨rfl, hb2⟩
      have B2 := B1.trans (hb2.mono B1.size)
      have O2 := own2_below hO (hb1.trans (hb2.mono hb1.size))
      have z2 := B2.size
      clear hO e1 e2 H1 hb1 hb2 B1 hbel
      generalize sumL zs = x at *
      go_wp2_with (at_builtin; refine wpList_append_own _ rfl _ _ 27 rfl w.heap.size 2 i0 (.int .i64 0) 1 8 Tryd.underlying27 hi hz0 hz1 hz2 rfl (by decide) _ (k) _ rfl (O2.alloc _) ⟨u2.heap.size, 0, none⟩ 1 1 [.int .i64 (x)] rfl rfl (one7 _ _ _) (by intro u hu; simp at hu; subst hu; rfl) (by unfold maxLen; omega) (by omega) (by simp; omega) ?_; intro v3 w3 hn3 hg3 h43)
      have B3 : Below w.heap.size w w3 := (B2.alloc z2 _).trans ((Below.refl _ _).grown hg3 (by simp; omega) (fun k hk => (O2.lt k hk).1))
      obtain ⟨a3, c3, rfl, _, _⟩ := own2_shape hn3
      have O3 : Hid (World.ownsRow w3 w.heap.size 2 1 (.slice a3 (k + 1) c3) (k + 1) ((lvR l 0 (k + 1)).map (.int .i64))) := by
        show World.ownsRow _ _ _ _ _ _ _
        rw [HSN.out]
        simpa using hn3
      clear hn3 hg3 h43 O2
      go_wp2
      go_roundw
      case rel => exact ⟨k + 1, a3, c3, by omega, by go_num, rfl, O3.out, B3⟩
      case measure => simp [intOf]; omega
    · obtain rfl : k = 64 := by omega
      have HE := EN.out 64
      have OH : Hid (OwnI wr w.heap.size (.slice va 64 vc) (lvR l 0 64)) := by
        show World.ownsRow _ _ _ _ _ _ _
        rw [HE]
        exact hO
      clear hO HE
      go_wp2
      go_ret
      exact ⟨va, vc, rfl, OH.out, hbel⟩

end Go.Proofs.YtjkehgnelfgoaaaDoor
