/- Contracts of the program's chapter 7: what a key has. -/
import Derived.Test.YtjjddjohckcmbaaDoorMapI
import Derived.Test.YtjjddjohckcmbaaDoorSlG
namespace Go.Proofs.YtjjddjohckcmbaaDoor
open Go.ChangeShapes Go.WideShapes Go.ChangeAt Go.RowKit
set_option linter.unusedVariables false
set_option linter.unusedSimpArgs false

open Go.Maps (Keyed int_keyed keyOf_int_mk)
set_option maxHeartbeats 2000000 in
theorem implFindSlot_any (a : Option Addr) (c : Nat) (l : List Sl) (key : Int) (w : World) (h : HasS w a l) (hl : l.length ≤ 1048576) (hkw : (Lit.int .i64 key).wf = true) :
    Calls Tryd.prog 22 #[.slice a l.length c, .int .i64 key] w fun r w' => r = .returned (.agg #[.int .i64 (fdC l key), .int .i64 (fdV l key)]) ∧ Below w.heap.size w w' := by
  have h' := h.alloc (.cells #[.int .i64 0, .int .i64 0] 34)
  have B0 : Below w.heap.size w (w.alloc (.cells #[.int .i64 0, .int .i64 0] 34)) := (Below.refl _ _).alloc (Nat.le_refl _) _
  have SF : Hid (∀ u : World, HasS u a l → Calls Tryd.prog 20 #[.slice a l.length c] u fun r w' => r = .returned (.int .i64 (slF l)) ∧ Below u.heap.size u w') := fun u hu => implSlotsFault_any a c l u hu hl
  by_cases hc : slF l = 0
  · have HC1 : Hid (fdC l key = if (slFind l key).isSome = true then 0 else 4) := by show _ = _; unfold fdC; rw [if_pos hc]
    have HC2 : Hid (fdV l key = (slFind l key).getD 0) := by show _ = _; unfold fdV; rw [if_pos hc]
    generalize fdC l key = cd at *
    generalize fdV l key = cv at *
    obtain ⟨hl12, _, hr⟩ := slF_zero hc
    rw [hc] at SF
    have SM : Hid (∀ u : World, HasS u a l → Calls Tryd.prog 51 #[.slice a l.length c] u fun r w' => r = .returned (.map (some u.heap.size)) ∧ (∃ D, World.ownsMap w' Tryd.prog 2 (plainElem (H := Unit) Tryd.prog 2) u.heap.size 12 D ∧ MapD D (slFind l) l.length) ∧ Below u.heap.size u w' ∧ u.heap.size < w'.heap.size) := fun u hu => slotMapOf_any a c l u hu hl12 hr
    clear hc hr hl12
    have hkey := keyOf_int_mk Tryd.underlying2 hkw
    go_enter Tryd.func22, Tryd.ntmps22
    go_wp2_with fail
    refine (SF.out _ h').mono ?_
    rintro r u1 ⟨rfl, hb1⟩
    have h1 := h'.below hb1 (Nat.le_refl _)
    have B1 := B0.trans (hb1.mono (by simp))
    have z1 := hb1.size
    simp at z1
    go_wp2_with fail
    refine (SM.out _ h1).mono ?_
    rintro r u2 ⟨rfl, ⟨D, hown, hmd⟩, hb2, z2⟩
    have hB2 := hb1.trans (hb2.mono hb1.size)
    obtain ⟨k0, k1⟩ := var2 hB2
    have f0 := (bcell hB2).2 w.heap.size 0 (by simp)
    have f1 := (bcell hB2).2 w.heap.size 1 (by simp)
    simp [go_sem] at f0 f1
    have B2 := B1.trans (hb2.mono B1.size)
    have hh := hmd.has key
    have hvv := hmd.val key
    clear hmd hb1 hb2 hB2 h1 h' h B1
    cases e : slFind l key with
    | none =>
      rw [e] at hh HC1 HC2
      simp only [Option.isSome_none] at hh
      clear hvv e
      go_wp2_with (first | (at_lookup; refine wpList_lookup_own_ok_int _ rfl _ _ 82 rfl 2 2 .i64 mapLaw Tryd.underlying82 Tryd.underlying2 (mapZero _) u1.heap.size 12 D rfl hown _ _ rfl hkey ?_; intro c' hat hwc) | go_in)
      refine bodyPost_ret (v := .agg #[.int .i64 (4), .int .i64 (0)]) (by simp [results, Tryd.results22, go_sem, k0, k1]) rfl ⟨by rw [HC1.out, HC2.out]; rfl, ?_⟩
      exact (B2.setCell (Nat.le_refl _) _).setCell (Nat.le_refl _) _
    | some v =>
      have hvv := hvv v e
      rw [e] at hh HC1 HC2
      simp only [Option.isSome_some] at hh
      clear e
      go_wp2_with (first | (at_lookup; refine wpList_lookup_own_ok_int _ rfl _ _ 82 rfl 2 2 .i64 mapLaw Tryd.underlying82 Tryd.underlying2 (mapZero _) u1.heap.size 12 D rfl hown _ _ rfl hkey ?_; intro c' hat hwc; obtain rfl : v = c' := (by rw [hvv] at hat; simpa using hat)) | go_in)
      refine bodyPost_ret (v := .agg #[.int .i64 (0), .int .i64 (v)]) (by simp [results, Tryd.results22, go_sem, k0, k1]) rfl ⟨by rw [HC1.out, HC2.out]; rfl, ?_⟩
      exact (B2.setCell (Nat.le_refl _) _).setCell (Nat.le_refl _) _
  · have e1 : fdC l key = slF l := by unfold fdC; rw [if_neg hc]
    have e2 : fdV l key = 0 := by unfold fdV; rw [if_neg hc]
    rw [e1, e2]
    clear e1 e2
    have hc' : (slF l != 0) = true := by simpa using hc
    generalize slF l = cc at *
    go_enter Tryd.func22, Tryd.ntmps22
    go_wp2_with fail
    refine (SF.out _ h').mono ?_
    rintro r u1 ⟨rfl, hb1⟩
    obtain ⟨k0, k1⟩ := var2 hb1
    have f0 := (bcell hb1).2 w.heap.size 0 (by simp)
    have f1 := (bcell hb1).2 w.heap.size 1 (by simp)
    simp [go_sem] at f0 f1
    have B1 := B0.trans (hb1.mono (by simp))
    go_wp2
    refine bodyPost_ret (v := .agg #[.int .i64 (cc), .int .i64 (0)]) (by simp [results, Tryd.results22, go_sem, k0, k1]) rfl ⟨rfl, ?_⟩
    exact (B1.setCell (Nat.le_refl _) _).setCell (Nat.le_refl _) _

end Go.Proofs.YtjjddjohckcmbaaDoor
