/- The fault of a signature, of both sides. -/
import Derived.Test.YtffidkoejlebeaaDoorSplit
import Derived.Test.YtffidkoejlebeaaDoorIn
import Derived.Test.YtffidkoejlebeaaDoorFrB
import Derived.Test.YtffidkoejlebeaaDoorCOr
import Derived.Deep.RegionHeld3
import Derived.Deep.RegionWith
namespace Go.Proofs.YtffidkoejlebeaaDoor
open Go.ChangeShapes Go.WideShapes Go.ChangeAt Go.RowKit
set_option maxRecDepth 100000
set_option linter.unusedVariables false
set_option linter.unusedSimpArgs false

/-- The fault of a signature. -/
def sgF (i : Int) (sh ot : List Int) : Int := if 0 ≤ i ∧ i ≤ 7 then (if sh.length = 16 ∧ ot.length = 16 then (if allS sh = true then suF ot else 3) else 2) else 3
theorem sgF_zero {i : Int} {sh ot : List Int} (h : sgF i sh ot = 0) : (0 ≤ i ∧ i ≤ 7) ∧ sh.length = 16 ∧ ot.length = 16 ∧ allS sh = true ∧ allS ot = true := by
  unfold sgF suF at h
  split at h
  · split at h
    · rename_i h1 h2
      split at h
      · rename_i h3
        split at h
        · rename_i h4; exact ⟨h1, h2.1, h2.2, h3, h4⟩
        · omega
      · omega
    · omega
  · omega
theorem sgF_of {i : Int} {sh ot : List Int} (h1 : 0 ≤ i ∧ i ≤ 7) (h2 : sh.length = 16) (h3 : ot.length = 16) (h4 : allS sh = true) (h5 : allS ot = true) : sgF i sh ot = 0 := by
  unfold sgF suF
  rw [if_pos h1, if_pos ⟨h2, h3⟩, if_pos h4, if_pos h5]
theorem sgF_bd (i : Int) (sh ot : List Int) : sgF i sh ot = 0 ∨ sgF i sh ot = 2 ∨ sgF i sh ot = 3 := by
  unfold sgF suF
  repeat (first | (split) | omega | simp)

theorem isFrom_any (v b : Int) (w : World) : Calls Tryd.prog 66 #[.int .i64 v, .int .i64 b] w fun r w' => r = .returned (.bool (decide (0 ≤ v ∧ v ≤ b))) ∧ w' = w := by
  by_cases h : 0 ≤ v
  · go_enter Tryd.func66, Tryd.ntmps66
    go_wp2
    go_ret
    exact ⟨ret_bool (by simp [h]), rfl⟩
  · go_enter Tryd.func66, Tryd.ntmps66
    go_wp2
    go_ret
    exact ⟨ret_bool (by simp; omega), rfl⟩

theorem isIndex_any (v : Int) (w : World) : Calls Tryd.prog 68 #[.int .i64 v] w fun r w' => r = .returned (.bool (decide (0 ≤ v ∧ v ≤ 7))) ∧ w' = w := by
  go_enter Tryd.func68, Tryd.ntmps68
  go_wp2_with fail
  refine (isFrom_any v 7 _).mono ?_
  rintro r u ⟨rfl, rfl⟩
  go_wp2
  go_ret
  exact ⟨ret_bool (by simp), rfl⟩

/-- A signature that is read: its cells, and both its lists. -/
structure SgAt (w : World) (g : Nat) (i : Int) (a b : Option Addr) (ca cb : Nat) (sh ot : List Int) : Prop where
  v : Blk w g #[.int .i64 i, .slice a sh.length ca, .slice b ot.length cb] 46
  s : Has w .i64 a sh.length sh
  o : Has w .i64 b ot.length ot
theorem SgAt.below {w w' : World} {g : Nat} {i : Int} {a b : Option Addr} {ca cb : Nat} {sh ot : List Int} (h : SgAt w g i a b ca cb sh ot) (hb : Below w.heap.size w w') : SgAt w' g i a b ca cb sh ot :=
  ⟨h.v.below hb h.v.lt, h.s.below hb (Nat.le_refl _), h.o.below hb (Nat.le_refl _)⟩

set_option maxHeartbeats 2000000 in
theorem l8Fault_any (g : Nat) (i : Int) (a b : Option Addr) (ca cb : Nat) (sh ot : List Int) (w : World) (h : SgAt w g i a b ca cb sh ot) (h1 : sh.length ≤ 1048576) (h2 : ot.length ≤ 1048576) :
    Calls Tryd.prog 88 #[.pointer (some ⟨g, 0, none⟩)] w fun r w' => r = .returned (.int .i64 (sgF i sh ot)) ∧ w' = w := by
  have k0 : w.cell? ⟨g, 0, none⟩ = some (.int .i64 i) := (h.v.cell 0).trans rfl
  have k1 : w.cell? ⟨g, 1, none⟩ = some (.slice a sh.length ca) := (h.v.cell 1).trans rfl
  have k2 : w.cell? ⟨g, 2, none⟩ = some (.slice b ot.length cb) := (h.v.cell 2).trans rfl
  have hg : g < w.heap.size := h.v.lt
  have IN := in_any i 0 7 w
  have AS := l1All_any a ca sh w h.s h1
  have AO := l1All_any b cb ot w h.o h2
  clear h
  cases hi : decide (0 ≤ i ∧ i ≤ 7) with
  | false =>
    have HC : Hid (sgF i sh ot = 3) := by show _ = _; unfold sgF; rw [if_neg (of_decide_eq_false hi)]
    rw [hi] at IN
    clear hi AS AO
    go_enter Tryd.func88, Tryd.ntmps88
    go_wp2_with fail
    refine (IN).mono ?_
    rintro r u ⟨rfl, hu⟩; have hu2 := hu.symm; subst hu2; clear hu
    go_wp2
    go_ret
    exact ⟨ret_int HC.out.symm, rfl⟩
  | true =>
    have hi' := of_decide_eq_true hi
    rw [hi] at IN
    by_cases l1 : sh.length = 16
    · have e1 : ((sh.length : Int) != 16) = false := by simp; omega
      by_cases l2 : ot.length = 16
      · have e2 : ((ot.length : Int) != 16) = false := by simp; omega
        cases hs : allS sh with
        | false =>
          have HC : Hid (sgF i sh ot = 3) := by show _ = _; unfold sgF; rw [if_pos hi', if_pos ⟨l1, l2⟩, hs]; rfl
          rw [hs] at AS
          clear hi hi' l1 l2 hs AO
          go_enter Tryd.func88, Tryd.ntmps88
          go_wp2_with fail
          refine (IN).mono ?_
          rintro r u ⟨rfl, hu⟩; have hu2 := hu.symm; subst hu2; clear hu
          go_wp2_with fail
          refine (AS).mono ?_
          rintro r u ⟨rfl, hu⟩; have hu2 := hu.symm; subst hu2; clear hu
          go_wp2
          go_ret
          exact ⟨ret_int HC.out.symm, rfl⟩
        | true =>
          rw [hs] at AS
          cases ho : allS ot with
          | false =>
            have HC : Hid (sgF i sh ot = 3) := by show _ = _; unfold sgF suF; rw [if_pos hi', if_pos ⟨l1, l2⟩, hs, ho]; rfl
            rw [ho] at AO
            clear hi hi' l1 l2 hs ho
            go_enter Tryd.func88, Tryd.ntmps88
            go_wp2_with fail
            refine (IN).mono ?_
            rintro r u ⟨rfl, hu⟩; have hu2 := hu.symm; subst hu2; clear hu
            go_wp2_with fail
            refine (AS).mono ?_
            rintro r u ⟨rfl, hu⟩; have hu2 := hu.symm; subst hu2; clear hu
            go_wp2_with fail
            refine (AO).mono ?_
            rintro r u ⟨rfl, hu⟩; have hu2 := hu.symm; subst hu2; clear hu
            go_wp2
            go_ret
            exact ⟨ret_int HC.out.symm, rfl⟩
          | true =>
            have HC : Hid (sgF i sh ot = 0) := sgF_of hi' l1 l2 hs ho
            rw [ho] at AO
            clear hi hi' l1 l2 hs ho
            go_enter Tryd.func88, Tryd.ntmps88
            go_wp2_with fail
            refine (IN).mono ?_
            rintro r u ⟨rfl, hu⟩; have hu2 := hu.symm; subst hu2; clear hu
            go_wp2_with fail
            refine (AS).mono ?_
            rintro r u ⟨rfl, hu⟩; have hu2 := hu.symm; subst hu2; clear hu
            go_wp2_with fail
            refine (AO).mono ?_
            rintro r u ⟨rfl, hu⟩; have hu2 := hu.symm; subst hu2; clear hu
            go_wp2
            go_ret
            exact ⟨ret_int HC.out.symm, rfl⟩
      · have e2 : ((ot.length : Int) != 16) = true := by simp; omega
        have HC : Hid (sgF i sh ot = 2) := by show _ = _; unfold sgF; rw [if_pos hi', if_neg (fun h => l2 h.2)]
        clear hi hi' l1 l2 AS AO
        go_enter Tryd.func88, Tryd.ntmps88
        go_wp2_with fail
        refine (IN).mono ?_
        rintro r u ⟨rfl, hu⟩; have hu2 := hu.symm; subst hu2; clear hu
        go_wp2
        go_ret
        exact ⟨ret_int HC.out.symm, rfl⟩
    · have e1 : ((sh.length : Int) != 16) = true := by simp; omega
      have HC : Hid (sgF i sh ot = 2) := by show _ = _; unfold sgF; rw [if_pos hi', if_neg (fun h => l1 h.1)]
      clear hi hi' l1 AS AO
      go_enter Tryd.func88, Tryd.ntmps88
      go_wp2_with fail
      refine (IN).mono ?_
      rintro r u ⟨rfl, hu⟩; have hu2 := hu.symm; subst hu2; clear hu
      go_wp2
      go_ret
      exact ⟨ret_int HC.out.symm, rfl⟩

theorem sgF_ways (i : Int) (sh ot : List Int) : sgF i sh ot = if 0 ≤ i ∧ i ≤ 7 then (if sh.length = 16 ∧ ot.length = 16 then orC (suF sh) (suF ot) else 2) else 3 := by
  unfold sgF orC
  split
  · split
    · cases h : allS sh with
      | true => rw [if_pos rfl, show suF sh = 0 by unfold suF; rw [h]; rfl, if_pos rfl]
      | false => rw [if_neg (by decide), show suF sh = 3 by unfold suF; rw [h]; rfl, if_neg (by decide)]
    · rfl
  · rfl
set_option maxHeartbeats 4000000 in
theorem implSignFault_any (i : Int) (a b : Option Addr) (ca cb : Nat) (sh ot : List Int) (w : World) (hs : Has w .i64 a sh.length sh) (ho : Has w .i64 b ot.length ot) (h1 : sh.length ≤ 1048576) (h2 : ot.length ≤ 1048576) :
    Calls Tryd.prog 93 #[.agg #[.int .i64 i, .slice a sh.length ca, .slice b ot.length cb]] w fun r w' => r = .returned (.int .i64 (sgF i sh ot)) ∧ Below w.heap.size w w' := by
  rw [sgF_ways]
  obtain ⟨E, hE⟩ : ∃ E, E = w.alloc (.cells #[.int .i64 i, .slice a sh.length ca, .slice b ot.length cb] 46) := ⟨_, rfl⟩
  have B0 : Below w.heap.size w E := by rw [hE]; exact (Below.refl _ _).alloc (Nat.le_refl _) _
  have GE : Blk E w.heap.size #[.int .i64 i, .slice a sh.length ca, .slice b ot.length cb] 46 := by rw [hE]; exact Blk.new _ _ _
  have IN := fun u => isIndex_any i u
  have k0 : E.cell? ⟨w.heap.size, 0, none⟩ = some (.int .i64 i) := (GE.cell 0).trans rfl
  have k1 : E.cell? ⟨w.heap.size, 1, none⟩ = some (.slice a sh.length ca) := (GE.cell 1).trans rfl
  have k2 : E.cell? ⟨w.heap.size, 2, none⟩ = some (.slice b ot.length cb) := (GE.cell 2).trans rfl
  have hlt := GE.lt
  cases hi : decide (0 ≤ i ∧ i ≤ 7) with
  | false =>
    rw [if_neg (of_decide_eq_false hi)]
    simp only [hi] at IN
    clear hi hs ho GE
    go_enter Tryd.func93, Tryd.ntmps93
    go_wp2_with fail
    simp only [← hE]
    clear hE
    refine (IN _).mono ?_
    rintro r u ⟨rfl, hu⟩; have hu2 := hu.symm; subst hu2; clear hu
    go_wp2
    go_ret
    exact ⟨rfl, B0⟩
  | true =>
    rw [if_pos (of_decide_eq_true hi)]
    simp only [hi] at IN
    by_cases l1 : sh.length = 16
    · have e1 : ((sh.length : Int) != 16) = false := by simp; omega
      by_cases l2 : ot.length = 16
      · have e2 : ((ot.length : Int) != 16) = false := by simp; omega
        rw [if_pos ⟨l1, l2⟩]
        have D0 : Below E.heap.size E E.drew := (Below.refl _ _).drew
        have SF1 := sumsFault_any a ca sh E.drew ((hs.below B0 (Nat.le_refl _)).below D0 (Nat.le_refl _)) h1
        have SF2 := sumsFault_any b cb ot E.drew ((ho.below B0 (Nat.le_refl _)).below D0 (Nat.le_refl _)) h2
        have BB : Below w.heap.size w (E.drew.alloc (.cells #[.int .i64 (suF sh), .int .i64 (suF ot)] 2)) := B0.drew.alloc B0.size _
        generalize suF sh = x at *
        generalize suF ot = y at *
        clear hi hs ho GE l1 l2 h1 h2
        go_enter Tryd.func93, Tryd.ntmps93
        go_wp2_with fail
        simp only [← hE]
        clear hE
        refine (IN _).mono ?_
        rintro r u ⟨rfl, hu⟩; have hu2 := hu.symm; subst hu2; clear hu
        go_wp2_with fail
        go_region_held3 (fun wx => wx.cell? ⟨w.heap.size, 1, none⟩ = some (.slice a sh.length ca) ∧ wx.cell? ⟨w.heap.size, 2, none⟩ = some (.slice b ot.length cb) ∧ w.heap.size < wx.heap.size) ((simp_all [go_sem]; try omega)) (first | (go_at_call_of 94 (Value.slice a sh.length ca); refine SF1.mono ?_; rintro _ u ⟨rfl, hu⟩; have hu2 := hu.symm; subst hu2; clear hu) | (go_at_call_of 94 (Value.slice b ot.length cb); refine SF2.mono ?_; rintro _ u ⟨rfl, hu⟩; have hu2 := hu.symm; subst hu2; clear hu) | (go_at_call 92; refine (cmpOr_any x y _ _ (by simp [go_sem]) (by simp [go_sem])).mono ?_; rintro _ u ⟨rfl, hu⟩; have hu2 := hu.symm; subst hu2; clear hu) | fail)
        go_wp2
        go_ret
        exact ⟨rfl, BB⟩
      · have e2 : ((ot.length : Int) != 16) = true := by simp; omega
        rw [if_neg (fun h => l2 h.2)]
        clear hi hs ho GE l1 l2
        go_enter Tryd.func93, Tryd.ntmps93
        go_wp2_with fail
        simp only [← hE]
        clear hE
        refine (IN _).mono ?_
        rintro r u ⟨rfl, hu⟩; have hu2 := hu.symm; subst hu2; clear hu
        go_wp2
        go_ret
        exact ⟨rfl, B0⟩
    · have e1 : ((sh.length : Int) != 16) = true := by simp; omega
      rw [if_neg (fun h => l1 h.1)]
      clear hi hs ho GE l1
      go_enter Tryd.func93, Tryd.ntmps93
      go_wp2_with fail
      simp only [← hE]
      clear hE
      refine (IN _).mono ?_
      rintro r u ⟨rfl, hu⟩; have hu2 := hu.symm; subst hu2; clear hu
      go_wp2
      go_ret
      exact ⟨rfl, B0⟩

end Go.Proofs.YtffidkoejlebeaaDoor
