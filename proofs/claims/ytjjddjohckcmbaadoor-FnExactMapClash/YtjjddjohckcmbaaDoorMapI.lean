/- Contracts of the program's chapter 7: slots that stand in a map; what a key has; a slot that is put. -/
import Derived.Test.YtjjddjohckcmbaaDoorISlF
import Derived.Test.YtjjddjohckcmbaaDoorPiece
import Derived.Maps.OwnSet
namespace Go.Proofs.YtjjddjohckcmbaaDoor
open Go.ChangeShapes Go.WideShapes Go.ChangeAt Go.RowKit
set_option linter.unusedVariables false
set_option linter.unusedSimpArgs false

open Go.Maps (Keyed int_keyed keyOf_int_mk)
theorem mapLaw : Keyed Tryd.prog 2 := int_keyed Tryd.underlying2
theorem mapZero (w : World) : (zeroValue 2).run Tryd.prog w = .ok (.int .i64 0) w := by kernel_rfl
/-- A map that has of each key what m tells, and so many keys. -/
structure MapD (D : DataW Unit) (m : Int → Option Int) (s : Nat) : Prop where
  size : Maps.size D = s
  has : ∀ k, Maps.has D (.int .i64 k) = (m k).isSome
  val : ∀ k v, m k = some v → D.atKey (.int .i64 k) (.lit (.int .i64 0)) = .lit (.int .i64 v)
theorem MapD.empty : MapD (.map []) (fun _ => none) 0 := ⟨rfl, fun _ => rfl, fun _ _ h => by cases h⟩
theorem keyLit (k : Int) : WideAt.IsKeyLit (.int .i64 k) := trivial
theorem lit_ne {j k : Int} (h : ¬ k = j) : Lit.int .i64 j ≠ Lit.int .i64 k := fun e => h (by cases e; rfl)
theorem MapD.put {D : DataW Unit} {m : Int → Option Int} {s : Nat} (h : MapD D m s) (ht : Maps.Tidy D) (k v : Int) (hk : m k = none) : MapD (D.put (.int .i64 k) (.lit (.int .i64 v))) (fun j => if k = j then some v else m j) (s + 1) := by
  refine ⟨?_, fun j => ?_, fun j u hj => ?_⟩
  · rw [Maps.size_put ht, h.has, hk, h.size]; rfl
  · by_cases e : k = j
    · subst e
      simp only [if_true]
      rw [Maps.has_put_same ht.isMap (keyLit k)]
      rfl
    · simp only [if_neg e]
      rw [Maps.has_put_other (lit_ne e), h.has]
  · by_cases e : k = j
    · subst e
      simp only [if_true] at hj
      cases hj
      rw [Maps.atKey_put_same ht.isMap (keyLit k)]
    · simp only [if_neg e] at hj
      rw [Maps.atKey_put_other (lit_ne e)]
      exact h.val j u hj
theorem MapD.del {D : DataW Unit} {m : Int → Option Int} {s : Nat} (h : MapD D m s) (ht : Maps.Tidy D) (k : Int) : MapD (D.del (.int .i64 k)) (fun j => if k = j then none else m j) (s - (if (m k).isSome = true then 1 else 0)) := by
  refine ⟨?_, fun j => ?_, fun j u hj => ?_⟩
  · have := Maps.size_del (k := .int .i64 k) ht
    rw [h.has, h.size] at this
    omega
  · by_cases e : k = j
    · subst e
      simp only [if_true]
      rw [Maps.has_del_same]
      rfl
    · simp only [if_neg e]
      rw [Maps.has_del_other (lit_ne e), h.has]
  · by_cases e : k = j
    · subst e
      simp at hj
    · simp only [if_neg e] at hj
      rw [Maps.atKey_del_other (lit_ne e)]
      exact h.val j u hj
theorem MapD.congr {D : DataW Unit} {m m' : Int → Option Int} {s : Nat} (h : MapD D m s) (e : m = m') : MapD D m' s := e ▸ h
theorem owns_below {w w' : World} {b n : Nat} {D : DataW Unit} {B : Nat} (h : World.ownsMap w Tryd.prog 2 (plainElem (H := Unit) Tryd.prog 2) b n D) (hb : Below B w w') (hB : b < B) : World.ownsMap w' Tryd.prog 2 (plainElem (H := Unit) Tryd.prog 2) b n D := by
  obtain ⟨es, clock, e, r⟩ := h
  exact ⟨es, clock, (hb.block b hB).trans e, r⟩
theorem owns_set {w : World} {b n g o : Nat} {D : DataW Unit} (h : World.ownsMap w Tryd.prog 2 (plainElem (H := Unit) Tryd.prog 2) b n D) (hg : g ≠ b) (u : Value) : World.ownsMap (w.setCell ⟨g, o, none⟩ u) Tryd.prog 2 (plainElem (H := Unit) Tryd.prog 2) b n D := by
  obtain ⟨es, clock, e, r⟩ := h
  exact ⟨es, clock, (Below.heap_setCell w ⟨g, o, none⟩ u b (by show b ≠ g; omega)).trans e, r⟩
/-- Nothing has turned but a map. -/
theorem below_map {w w' : World} {b B : Nat} (h : w.grownBy w' (some b)) (hb : B ≤ b) (hs : B ≤ w.heap.size) : Below B w w' := (Fr.of_grown (M := fun k => k = b) h (fun k e => by cases e; rfl)).below (fun k e => by omega) hs
theorem rises_take {l : List Sl} (h : Rises l) (k : Nat) : Rises (l.take k) := List.Pairwise.sublist (List.take_sublist _ _) h
theorem find_take {l : List Sl} (h : Rises l) {k : Nat} (hk : k < l.length) : slFind (l.take k) l[k].1 = none := by
  refine slFind_none fun s hs => ?_
  have h1 := rises_take h (k + 1)
  rw [List.take_succ_eq_append_getElem hk] at h1
  have := (List.pairwise_append.1 h1).2.2 s hs l[k] (by simp)
  omega
theorem find_snoc {l : List Sl} (h : Rises l) {k : Nat} (hk : k < l.length) : (fun j => if l[k].1 = j then some l[k].2 else slFind (l.take k) j) = slFind (l.take (k + 1)) := by
  funext j
  have h1 := rises_take h (k + 1)
  rw [List.take_succ_eq_append_getElem hk] at h1 ⊢
  rw [slFind_snoc _ h1]

set_option maxHeartbeats 2000000 in
theorem slotMapOf_any (a : Option Addr) (c : Nat) (l : List Sl) (w : World) (h : HasS w a l) (hl : l.length ≤ 12) (hr : Rises l) :
    Calls Tryd.prog 51 #[.slice a l.length c] w fun r w' => r = .returned (.map (some w.heap.size)) ∧ (∃ D, World.ownsMap w' Tryd.prog 2 (plainElem (H := Unit) Tryd.prog 2) w.heap.size 12 D ∧ MapD D (slFind l) l.length) ∧ Below w.heap.size w w' ∧ w.heap.size < w'.heap.size := by
  have hmm := @run_makeMap Tryd.prog
  have hW := h.wf
  have OM0 : World.ownsMap (w.alloc (.map #[] 0)) Tryd.prog 2 (plainElem (H := Unit) Tryd.prog 2) w.heap.size 0 (.map []) := World.ownsMap_made _ _ _ _
  have HR : Hid (Rises l) := hr
  clear hr
  rcases h.cells with h0 | ⟨b, off, rfl, hb, hcell⟩
  · subst h0
    have OM1 := OM0.mono (Nat.zero_le 12)
    clear OM0
    simp only [List.length_nil] at *
    go_enter Tryd.func51, Tryd.ntmps51
    go_wp2
    refine wp_loop_rounds 1 ?_
    rw [rounds_succ]
    go_wp2
    go_ret
    exact ⟨rfl, ⟨_, OM1, MapD.empty⟩, (Below.refl _ _).alloc (Nat.le_refl _) _, by simp⟩
  · go_enter Tryd.func51, Tryd.ntmps51
    go_wp2
    go_loopw [9] (fun i wr => ∃ (k : Nat) (D : DataW Unit), k ≤ l.length ∧ i = .int .i64 k ∧ World.ownsMap wr Tryd.prog 2 (plainElem (H := Unit) Tryd.prog 2) w.heap.size k D ∧ MapD D (slFind (l.take k)) k ∧ Below w.heap.size w wr ∧ w.heap.size < wr.heap.size) (fun i _ => l.length - (intOf i).toNat)
    case atStart => exact ⟨0, _, Nat.zero_le _, rfl, OM0, MapD.empty, (Below.refl _ _).alloc (Nat.le_refl _) _, by simp⟩
    case round =>
      clear OM0
      obtain ⟨k, D, hk, rfl, hown, hmd, hbel, hlt⟩ := hrel
      have HM : Hid (MapD D (slFind (l.take k)) k) := hmd
      clear hmd
      by_cases hlk : k < l.length
      · have hlt' : (k : Int) < (l.length : Int) := by omega
        have e1 : wr.cell? ⟨b, off + k * 2, none⟩ = some (.int .i64 l[k].1) := (hbel.cell (p := ⟨b, off + k * 2, none⟩) hb).trans (hcell k hlk).1
        have e2 : wr.cell? ⟨b, off + k * 2 + 1, none⟩ = some (.int .i64 l[k].2) := (hbel.cell (p := ⟨b, off + k * 2 + 1, none⟩) hb).trans (hcell k hlk).2
        obtain ⟨q1, q2⟩ := hW l[k] (List.getElem_mem hlk)
        have MN : Hid (∀ u : World, World.ownsMap u Tryd.prog 2 (plainElem (H := Unit) Tryd.prog 2) w.heap.size k D → MapD (D.put (.int .i64 l[k].1) (.lit (.int .i64 l[k].2))) (slFind (l.take (k + 1))) (k + 1)) := fun u hu => (HM.out.put (hu.tidy mapLaw) _ _ (find_take HR.out hlk)).congr (find_snoc HR.out hlk)
        clear hcell hW
        generalize l[k].1 = x at *
        generalize l[k].2 = y at *
        have hkey := keyOf_int_mk Tryd.underlying2 q1
        have hz := hbel.size
        have HA : Hid (World.ownsMap (wr.alloc (.cells #[.int .i64 x, .int .i64 y] 50)) Tryd.prog 2 (plainElem (H := Unit) Tryd.prog 2) w.heap.size k D) := hown.alloc _
        go_wp2_with (first | (at_mapUpdate; refine wpList_mapUpdate_own _ rfl _ _ _ 82 rfl 2 2 mapLaw Tryd.underlying82 _ w.heap.size k _ rfl HA.out (by unfold maxLen; omega) _ _ _ rfl rfl hkey _ [] (plainElem_int Tryd.underlying2 q2) ?_; intro w1 hown1 hgrow1) | go_in)
        have B1 : Below w.heap.size w w1 := (hbel.alloc hz _).trans (below_map hgrow1 (Nat.le_refl _) (by simp; omega))
        have z1 : w.heap.size < w1.heap.size := by have := hgrow1.size; simp at this; omega
        have O1 : Hid (World.ownsMap w1 Tryd.prog 2 (plainElem (H := Unit) Tryd.prog 2) w.heap.size (k + 1) (D.put (.int .i64 x) (.lit (.int .i64 y)))) := hown1
        clear hown1 hgrow1 HA
        go_wp2
        go_roundw
        case rel => exact ⟨k + 1, _, by omega, by go_num, O1.out, MN.out _ hown, B1, z1⟩
        case measure => simp [intOf]; omega
      · have hkk : k = l.length := by omega
        have HK : Hid (k = l.length) := hkk
        have OM1 : World.ownsMap wr Tryd.prog 2 (plainElem (H := Unit) Tryd.prog 2) w.heap.size 12 D := hown.mono (by omega)
        clear hkk hown
        go_wp2
        go_ret
        refine ⟨rfl, ⟨D, OM1, ?_⟩, hbel, hlt⟩
        have := HM.out
        rw [HK.out, List.take_length] at this
        exact this

theorem infoSm : (Tryd.prog.info? 50).map (fun i => (i.zero, i.size, i.bytes)) = some (some (.agg #[.int .i64 0, .int .i64 0]), 2, 16) := by kernel_rfl
theorem risL_len (m : Int → Option Int) (n : Nat) : (risL m n).length ≤ n := by
  unfold risL
  have := List.length_filterMap_le (fun k : Nat => (m (k : Int)).map fun v => ((k : Int), v)) (List.range n)
  simpa using this

set_option maxHeartbeats 4000000 in
theorem rising_any (b n s : Nat) (D : DataW Unit) (m : Int → Option Int) (w : World) (hown : World.ownsMap w Tryd.prog 2 (plainElem (H := Unit) Tryd.prog 2) b n D) (hmd : MapD D m s) :
    Calls Tryd.prog 72 #[.map (some b)] w fun r w' => ∃ a' c', r = .returned (.slice a' (risL m 64).length c') ∧ OwnS w' w.heap.size (.slice a' (risL m 64).length c') (risL m 64) ∧ Below w.heap.size w w' := by
  obtain ⟨i0, hi, hz0, hz1, hz2⟩ := info_parts infoSm
  have hb := hown.lt
  have HM : Hid (MapD D m s) := hmd
  have OW : Hid (∀ u : World, Below w.heap.size w u → World.ownsMap u Tryd.prog 2 (plainElem (H := Unit) Tryd.prog 2) b n D) := fun u hu => owns_below hown hu hb
  clear hmd hown
  have nil0 : OwnS w w.heap.size (.slice none 0 0) (risL m 0) := ⟨rfl, .inl ⟨rfl, rfl⟩⟩
  go_enter Tryd.func72, Tryd.ntmps72
  go_wp2
  go_loopw [3, 7] (fun v i wr => ∃ k : Nat, k ≤ 64 ∧ i = .int .i64 k ∧ OwnS wr w.heap.size v (risL m k) ∧ Below w.heap.size w wr) (fun _ i _ => 64 - (intOf i).toNat)
  case atStart => exact ⟨0, Nat.zero_le _, rfl, nil0, Below.refl _ _⟩
  case round =>
    clear nil0
    obtain ⟨k, hk, rfl, hO, hbel⟩ := hrel
    obtain ⟨va, vc, rfl, _, _⟩ := own2_shape hO
    by_cases hlt : k < 64
    · have hlt' : (k : Int) < 64 := by omega
      have hM := OW.out _ hbel
      have hkey := keyOf_int_mk Tryd.underlying2 (show (Lit.int .i64 (k : Int)).wf = true from WalkArith.wf_i64 (by omega))
      have hh := HM.out.has (k : Int)
      have hvv := HM.out.val (k : Int)
      have hln := risL_len m k
      have hss := risL_succ m k
      have hz := hbel.size
      cases e : m (k : Int) with
      | none =>
        rw [e] at hh hss
        simp only [Option.isSome_none, List.append_nil] at hh hss
        have HS : Hid (risL m (k + 1) = risL m k) := hss
        clear hss hvv e
        go_wp2_with (first | (at_lookup; refine wpList_lookup_own_ok_int _ rfl _ _ 82 rfl 2 2 .i64 mapLaw Tryd.underlying82 Tryd.underlying2 (mapZero _) b n D rfl hM _ _ rfl hkey ?_; intro c hat hwc) | go_in)
        go_roundw
        case rel => exact ⟨k + 1, by omega, by go_num, by rw [HS.out]; exact hO, hbel⟩
        case measure => simp [intOf]; omega
      | some v =>
        have hvv := hvv v e
        rw [e] at hh hss
        simp only [Option.isSome_some] at hh hss
        have HS : Hid (risL m (k + 1) = risL m k ++ [((k : Int), v)]) := hss
        clear hss e
        generalize risL m k = R at *
        go_wp2_with (first | (at_lookup; refine wpList_lookup_own_ok_int _ rfl _ _ 82 rfl 2 2 .i64 mapLaw Tryd.underlying82 Tryd.underlying2 (mapZero _) b n D rfl hM _ _ rfl hkey ?_; intro c hat hwc; obtain rfl : v = c := (by rw [hvv] at hat; simpa using hat)) | (at_builtin; refine wpList_append_own _ rfl _ _ 24 rfl w.heap.size 50 i0 (.agg #[.int .i64 0, .int .i64 0]) 2 16 Tryd.underlying24 hi hz0 hz1 hz2 rfl (by decide) _ _ _ rfl (hO.alloc _) ⟨wr.heap.size, 0, none⟩ 1 1 [.int .i64 k, .int .i64 v] rfl rfl (two_new _ _ _ _) (by intro u hu; simp at hu; rcases hu with rfl | rfl <;> rfl) (by unfold maxLen; omega) (by omega) (by simp; omega) ?_; intro v' w3 hown3 hgrow _h4) | go_in)
        have B3 : Below w.heap.size w w3 := (hbel.alloc hz _).trans ((Below.refl _ _).grown hgrow (by simp; omega) (fun k hk => (hO.lt k hk).1))
        have O3 : OwnS w3 w.heap.size v' (risL m (k + 1)) := by
          rw [HS.out]
          show World.ownsRow w3 _ _ 2 v' (R ++ [((k : Int), v)]).length _
          simpa [flat_app, flat] using hown3
        have OH : Hid (_) := O3
        clear hown3 hgrow _h4 O3
        go_wp2
        go_roundw
        case rel => exact ⟨k + 1, by omega, by go_num, OH.out, B3⟩
        case measure => simp [intOf]; omega
    · have hkk : k = 64 := by omega
      subst hkk
      go_wp2
      go_ret
      exact ⟨va, vc, rfl, hO, hbel⟩

end Go.Proofs.YtjjddjohckcmbaaDoor
