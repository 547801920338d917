/- Contracts: the model's fault of a head, and of a signed one. -/
import Derived.Test.YtffidkoejlebeaaGreatDoorHdD
import Derived.Test.YtffidkoejlebeaaGreatDoorRegB
import Derived.Deep.RegionHeld3
import Derived.Deep.RegionWith
namespace Go.Proofs.YtffidkoejlebeaaGreatDoor
open Go.ChangeShapes Go.WideShapes Go.ChangeAt Go.RowKit
set_option maxRecDepth 100000
set_option linter.unusedVariables false
set_option linter.unusedSimpArgs false

set_option maxHeartbeats 2000000 in
theorem l8Fault4_any (g : Nat) (i : Int) (a b : Option Addr) (ca cb : Nat) (sh ot : List Int) (w : World) (k0 : w.cell? ⟨g, 4, none⟩ = some (.int .i64 i)) (k1 : w.cell? ⟨g, 5, none⟩ = some (.slice a sh.length ca)) (k2 : w.cell? ⟨g, 6, none⟩ = some (.slice b ot.length cb)) (hg : g < w.heap.size) (hs : Has w .i64 a sh.length sh) (ho : Has w .i64 b ot.length ot) (h1 : sh.length ≤ 1048576) (h2 : ot.length ≤ 1048576) :
    Calls Tryz.prog 84 #[.pointer (some ⟨g, 4, none⟩)] w fun r w' => r = .returned (.int .i64 (sgF i sh ot)) ∧ w' = w := by
  have IN := in_any i 0 7 w
  have AS := l1All_any a ca sh w hs h1
  have AO := l1All_any b cb ot w ho h2
  clear hs ho
  cases hi : decide (0 ≤ i ∧ i ≤ 7) with
  | false =>
    have HC : Hid (sgF i sh ot = 3) := by show _ = _; unfold sgF; rw [if_neg (of_decide_eq_false hi)]
    rw [hi] at IN
    clear hi AS AO
    go_enter Tryz.func84, Tryz.ntmps84
    go_wp2_with fail
    refine (IN).mono ?_
    rintro r u ⟨rfl, hu⟩; have hu2 := hu.symm; subst hu2; clear hu
    go_wp2
    go_ret
    exact ⟨ret_int HC.out.symm, rfl⟩
  | true =>
    have hi' := of_decide_eq_true hi
    rw [hi] at IN
    by_cases l1 : sh.length = 16
    · have e1 : ((sh.length : Int) != 16) = false := by simp; omega
      by_cases l2 : ot.length = 16
      · have e2 : ((ot.length : Int) != 16) = false := by simp; omega
        cases hs : allS sh with
        | false =>
          have HC : Hid (sgF i sh ot = 3) := by show _ = _; unfold sgF; rw [if_pos hi', if_pos ⟨l1, l2⟩, hs]; rfl
          rw [hs] at AS
          clear hi hi' l1 l2 hs AO
          go_enter Tryz.func84, Tryz.ntmps84
          go_wp2_with fail
          refine (IN).mono ?_
          rintro r u ⟨rfl, hu⟩; have hu2 := hu.symm; subst hu2; clear hu
          go_wp2_with fail
          refine (AS).mono ?_
          rintro r u ⟨rfl, hu⟩; have hu2 := hu.symm; subst hu2; clear hu
          go_wp2
          go_ret
          exact ⟨ret_int HC.out.symm, rfl⟩
        | true =>
          rw [hs] at AS
          cases ho : allS ot with
          | false =>
            have HC : Hid (sgF i sh ot = 3) := by show _ = _; unfold sgF suF; rw [if_pos hi', if_pos ⟨l1, l2⟩, hs, ho]; rfl
            rw [ho] at AO
            clear hi hi' l1 l2 hs ho
            go_enter Tryz.func84, Tryz.ntmps84
            go_wp2_with fail
            refine (IN).mono ?_
            rintro r u ⟨rfl, hu⟩; have hu2 := hu.symm; subst hu2; clear hu
            go_wp2_with fail
            refine (AS).mono ?_
            rintro r u ⟨rfl, hu⟩; have hu2 := hu.symm; subst hu2; clear hu
            go_wp2_with fail
            refine (AO).mono ?_
            rintro r u ⟨rfl, hu⟩; have hu2 := hu.symm; subst hu2; clear hu
            go_wp2
            go_ret
            exact ⟨ret_int HC.out.symm, rfl⟩
          | true =>
            have HC : Hid (sgF i sh ot = 0) := sgF_of hi' l1 l2 hs ho
            rw [ho] at AO
            clear hi hi' l1 l2 hs ho
            go_enter Tryz.func84, Tryz.ntmps84
            go_wp2_with fail
            refine (IN).mono ?_
            rintro r u ⟨rfl, hu⟩; have hu2 := hu.symm; subst hu2; clear hu
            go_wp2_with fail
            refine (AS).mono ?_
            rintro r u ⟨rfl, hu⟩; have hu2 := hu.symm; subst hu2; clear hu
            go_wp2_with fail
            refine (AO).mono ?_
            rintro r u ⟨rfl, hu⟩; have hu2 := hu.symm; subst hu2; clear hu
            go_wp2
            go_ret
            exact ⟨ret_int HC.out.symm, rfl⟩
      · have e2 : ((ot.length : Int) != 16) = true := by simp; omega
        have HC : Hid (sgF i sh ot = 2) := by show _ = _; unfold sgF; rw [if_pos hi', if_neg (fun h => l2 h.2)]
        clear hi hi' l1 l2 AS AO
        go_enter Tryz.func84, Tryz.ntmps84
        go_wp2_with fail
        refine (IN).mono ?_
        rintro r u ⟨rfl, hu⟩; have hu2 := hu.symm; subst hu2; clear hu
        go_wp2
        go_ret
        exact ⟨ret_int HC.out.symm, rfl⟩
    · have e1 : ((sh.length : Int) != 16) = true := by simp; omega
      have HC : Hid (sgF i sh ot = 2) := by show _ = _; unfold sgF; rw [if_pos hi', if_neg (fun h => l1 h.1)]
      clear hi hi' l1 AS AO
      go_enter Tryz.func84, Tryz.ntmps84
      go_wp2_with fail
      refine (IN).mono ?_
      rintro r u ⟨rfl, hu⟩; have hu2 := hu.symm; subst hu2; clear hu
      go_wp2
      go_ret
      exact ⟨ret_int HC.out.symm, rfl⟩


/-- The four numbers of a head that is read. -/
structure HdAt (w : World) (g : Nat) (z r m k : Int) : Prop where
  z0 : w.cell? ⟨g, 0, none⟩ = some (.int .i64 z)
  r0 : w.cell? ⟨g, 1, none⟩ = some (.int .i64 r)
  m0 : w.cell? ⟨g, 2, none⟩ = some (.int .i64 m)
  k0 : w.cell? ⟨g, 3, none⟩ = some (.int .i64 k)
  lt : g < w.heap.size
theorem HdAt.below {w w' : World} {g : Nat} {z r m k : Int} (h : HdAt w g z r m k) (hb : Below w.heap.size w w') : HdAt w' g z r m k :=
  ⟨(hb.cell (p := ⟨g, 0, none⟩) h.lt).trans h.z0, (hb.cell (p := ⟨g, 1, none⟩) h.lt).trans h.r0, (hb.cell (p := ⟨g, 2, none⟩) h.lt).trans h.m0, (hb.cell (p := ⟨g, 3, none⟩) h.lt).trans h.k0, Nat.lt_of_lt_of_le h.lt hb.size⟩
theorem HdAt.of_blk {w : World} {g : Nat} {z r m k : Int} {T : Nat} (h : Blk w g #[.int .i64 z, .int .i64 r, .int .i64 m, .int .i64 k] T) : HdAt w g z r m k :=
  ⟨(h.cell 0).trans rfl, (h.cell 1).trans rfl, (h.cell 2).trans rfl, (h.cell 3).trans rfl, h.lt⟩

set_option maxHeartbeats 2000000 in
theorem l9Fault_any (g : Nat) (z r m k : Int) (w : World) (h : HdAt w g z r m k) :
    Calls Tryz.prog 45 #[.pointer (some ⟨g, 0, none⟩)] w fun e w' => e = .returned (.int .i64 (hdF z r m k)) ∧ w' = w := by
  obtain ⟨h0, h1, h2, h3, hg⟩ := h
  have IZ := in_any z 0 24 w
  have IK := in_any k 0 7 w
  have SR := l2Is_any r w
  have SM := l2Is_any m w
  cases e1 : decide (0 ≤ z ∧ z ≤ 24) with
  | false =>
    have HC : Hid (hdF z r m k = 3) := by show _ = _; unfold hdF; rw [if_neg]; intro hh; have := hdB_iff.1 hh; exact absurd this.1 (of_decide_eq_false e1)
    rw [e1] at IZ
    clear e1 IK SR SM
    go_enter Tryz.func45, Tryz.ntmps45
    go_wp2_with fail
    refine (IZ).mono ?_
    rintro r u ⟨rfl, hu⟩; have hu2 := hu.symm; subst hu2; clear hu
    go_wp2
    go_ret
    exact ⟨ret_int HC.out.symm, rfl⟩
  | true =>
    rw [e1] at IZ
    cases e2 : decide (0 ≤ r ∧ r ≤ 65520) with
    | false =>
      have HC : Hid (hdF z r m k = 3) := by show _ = _; unfold hdF; rw [if_neg]; intro hh; have := hdB_iff.1 hh; exact absurd this.2.1 (of_decide_eq_false e2)
      rw [e2] at SR
      clear e1 e2 IK SM
      go_enter Tryz.func45, Tryz.ntmps45
      go_wp2_with fail
      refine (IZ).mono ?_
      rintro r u ⟨rfl, hu⟩; have hu2 := hu.symm; subst hu2; clear hu
      go_wp2_with fail
      refine (SR).mono ?_
      rintro r u ⟨rfl, hu⟩; have hu2 := hu.symm; subst hu2; clear hu
      go_wp2
      go_ret
      exact ⟨ret_int HC.out.symm, rfl⟩
    | true =>
      rw [e2] at SR
      cases e3 : decide (0 ≤ m ∧ m ≤ 65520) with
      | false =>
        have HC : Hid (hdF z r m k = 3) := by show _ = _; unfold hdF; rw [if_neg]; intro hh; have := hdB_iff.1 hh; exact absurd this.2.2.1 (of_decide_eq_false e3)
        rw [e3] at SM
        clear e1 e2 e3 IK
        go_enter Tryz.func45, Tryz.ntmps45
        go_wp2_with fail
        refine (IZ).mono ?_
        rintro r u ⟨rfl, hu⟩; have hu2 := hu.symm; subst hu2; clear hu
        go_wp2_with fail
        refine (SR).mono ?_
        rintro r u ⟨rfl, hu⟩; have hu2 := hu.symm; subst hu2; clear hu
        go_wp2_with fail
        refine (SM).mono ?_
        rintro r u ⟨rfl, hu⟩; have hu2 := hu.symm; subst hu2; clear hu
        go_wp2
        go_ret
        exact ⟨ret_int HC.out.symm, rfl⟩
      | true =>
        rw [e3] at SM
        cases e4 : decide (0 ≤ k ∧ k ≤ 7) with
        | false =>
          have HC : Hid (hdF z r m k = 3) := by show _ = _; unfold hdF; rw [if_neg]; intro hh; have := hdB_iff.1 hh; exact absurd this.2.2.2 (of_decide_eq_false e4)
          rw [e4] at IK
          clear e1 e2 e3 e4
          go_enter Tryz.func45, Tryz.ntmps45
          go_wp2_with fail
          refine (IZ).mono ?_
          rintro r u ⟨rfl, hu⟩; have hu2 := hu.symm; subst hu2; clear hu
          go_wp2_with fail
          refine (SR).mono ?_
          rintro r u ⟨rfl, hu⟩; have hu2 := hu.symm; subst hu2; clear hu
          go_wp2_with fail
          refine (SM).mono ?_
          rintro r u ⟨rfl, hu⟩; have hu2 := hu.symm; subst hu2; clear hu
          go_wp2_with fail
          refine (IK).mono ?_
          rintro r u ⟨rfl, hu⟩; have hu2 := hu.symm; subst hu2; clear hu
          go_wp2
          go_ret
          exact ⟨ret_int HC.out.symm, rfl⟩
        | true =>
          have HC : Hid (hdF z r m k = 0) := by show _ = _; unfold hdF; rw [if_pos]; exact hdB_iff.2 ⟨of_decide_eq_true e1, of_decide_eq_true e2, of_decide_eq_true e3, of_decide_eq_true e4⟩
          rw [e4] at IK
          clear e1 e2 e3 e4
          go_enter Tryz.func45, Tryz.ntmps45
          go_wp2_with fail
          refine (IZ).mono ?_
          rintro r u ⟨rfl, hu⟩; have hu2 := hu.symm; subst hu2; clear hu
          go_wp2_with fail
          refine (SR).mono ?_
          rintro r u ⟨rfl, hu⟩; have hu2 := hu.symm; subst hu2; clear hu
          go_wp2_with fail
          refine (SM).mono ?_
          rintro r u ⟨rfl, hu⟩; have hu2 := hu.symm; subst hu2; clear hu
          go_wp2_with fail
          refine (IK).mono ?_
          rintro r u ⟨rfl, hu⟩; have hu2 := hu.symm; subst hu2; clear hu
          go_wp2
          go_ret
          exact ⟨ret_int HC.out.symm, rfl⟩

set_option maxHeartbeats 1000000 in
theorem specHeadFault_any (z r m k : Int) (w : World) :
    Calls Tryz.prog 26 #[.agg #[.int .i64 z, .int .i64 r, .int .i64 m, .int .i64 k]] w fun e w' => e = .returned (.int .i64 (hdF z r m k)) ∧ Below w.heap.size w w' := by
  have FA := l9Fault_any w.heap.size z r m k _ (HdAt.of_blk (Blk.new w _ 26))
  go_enter Tryz.func26, Tryz.ntmps26
  go_wp2_with fail
  refine FA.mono ?_
  rintro r u ⟨rfl, hu⟩; have hu2 := hu.symm; subst hu2; clear hu
  go_wp2
  go_ret
  exact ⟨rfl, (Below.refl _ _).alloc (Nat.le_refl _) _⟩

/-- A signed head that is read: its cells, and its lists. -/
structure SdAt (w : World) (g : Nat) (z r m k i : Int) (a b c : Option Addr) (ca cb cc : Nat) (sh ot p : List Int) : Prop where
  v : Blk w g #[.int .i64 z, .int .i64 r, .int .i64 m, .int .i64 k, .int .i64 i, .slice a sh.length ca, .slice b ot.length cb, .slice c p.length cc] 38
  s : Has w .i64 a sh.length sh
  o : Has w .i64 b ot.length ot
  p : Has w .i64 c p.length p
theorem SdAt.below {w w' : World} {g : Nat} {z r m k i : Int} {a b c : Option Addr} {ca cb cc : Nat} {sh ot p : List Int} (h : SdAt w g z r m k i a b c ca cb cc sh ot p) (hb : Below w.heap.size w w') : SdAt w' g z r m k i a b c ca cb cc sh ot p :=
  ⟨h.v.below hb h.v.lt, h.s.below hb (Nat.le_refl _), h.o.below hb (Nat.le_refl _), h.p.below hb (Nat.le_refl _)⟩
theorem SdAt.hd {w : World} {g : Nat} {z r m k i : Int} {a b c : Option Addr} {ca cb cc : Nat} {sh ot p : List Int} (h : SdAt w g z r m k i a b c ca cb cc sh ot p) : HdAt w g z r m k :=
  ⟨(h.v.cell 0).trans rfl, (h.v.cell 1).trans rfl, (h.v.cell 2).trans rfl, (h.v.cell 3).trans rfl, h.v.lt⟩

set_option maxHeartbeats 4000000 in
theorem l9Signed_any (g : Nat) (z r m k i : Int) (a b c : Option Addr) (ca cb cc : Nat) (sh ot p : List Int) (w : World) (h : SdAt w g z r m k i a b c ca cb cc sh ot p) (h1 : sh.length ≤ 1048576) (h2 : ot.length ≤ 1048576) (h3 : p.length ≤ 1048576) :
    Calls Tryz.prog 50 #[.pointer (some ⟨g, 0, none⟩)] w fun e w' => e = .returned (.int .i64 (sdF z r m k i sh ot p)) ∧ Below w.heap.size w w' := by
  have HF := l9Fault_any g z r m k w h.hd
  have k4 : w.cell? ⟨g, 4, none⟩ = some (.int .i64 i) := (h.v.cell 4).trans rfl
  have k3 : w.cell? ⟨g, 3, none⟩ = some (.int .i64 k) := (h.v.cell 3).trans rfl
  have k7 : w.cell? ⟨g, 7, none⟩ = some (.slice c p.length cc) := (h.v.cell 7).trans rfl
  have hg := h.v.lt
  have SF := l8Fault4_any g i a b ca cb sh ot w k4 ((h.v.cell 5).trans rfl) ((h.v.cell 6).trans rfl) hg h.s h.o h1 h2
  have AP : Hid (∀ n : Nat, Calls Tryz.prog 85 #[.slice c p.length cc, .int .i64 0, .int .i64 65520] (w.drewN n) fun r w' => r = .returned (.bool (allS p)) ∧ w' = w.drewN n) := fun n => l1All_any c cc p _ (h.p.below (below_drewN (Below.refl _ _) n) (Nat.le_refl _)) h3
  clear h
  have HS : Hid (sdF z r m k i sh ot p = if hdF z r m k = 0 then (if sgF i sh ot = 0 then (if i = k then (if p.length ≤ 6 then suF p else 2) else 1) else sgF i sh ot) else hdF z r m k) := by
    show _ = _
    unfold sdF hdF
    split
    · rfl
    · rfl
  generalize sdF z r m k i sh ot p = sd at *
  generalize hdF z r m k = hf at *
  generalize sgF i sh ot = sg at *
  by_cases q1 : hf = 0
  case neg =>
    have e1 : (hf != 0) = true := by simpa using q1
    have HC : Hid (sd = hf) := by show _ = _; rw [HS.out, if_neg q1]
    clear SF AP HS q1
    go_enter Tryz.func50, Tryz.ntmps50
    go_wp2_with fail
    refine (HF).mono ?_
    rintro r u ⟨rfl, hu⟩; have hu2 := hu.symm; subst hu2; clear hu
    go_wp2
    go_ret
    exact ⟨ret_int HC.out.symm, Below.refl _ _⟩
  have e1 : (hf != 0) = false := by simpa using q1
  by_cases q2 : sg = 0
  case neg =>
    have e2 : (sg != 0) = true := by simpa using q2
    have HC : Hid (sd = sg) := by show _ = _; rw [HS.out, if_pos q1, if_neg q2]
    clear AP HS q1 q2
    go_enter Tryz.func50, Tryz.ntmps50
    go_wp2_with fail
    refine (HF).mono ?_
    rintro r u ⟨rfl, hu⟩; have hu2 := hu.symm; subst hu2; clear hu
    go_wp2_with fail
    refine (SF).mono ?_
    rintro r u ⟨rfl, hu⟩; have hu2 := hu.symm; subst hu2; clear hu
    go_wp2
    go_ret
    exact ⟨ret_int HC.out.symm, Below.refl _ _⟩
  have e2 : (sg != 0) = false := by simpa using q2
  by_cases q3 : i = k
  case neg =>
    have e3 : (i != k) = true := by simpa using q3
    have HC : Hid (sd = 1) := by show _ = _; rw [HS.out, if_pos q1, if_pos q2, if_neg q3]
    clear AP HS q1 q2 q3
    go_enter Tryz.func50, Tryz.ntmps50
    go_wp2_with fail
    refine (HF).mono ?_
    rintro r u ⟨rfl, hu⟩; have hu2 := hu.symm; subst hu2; clear hu
    go_wp2_with fail
    refine (SF).mono ?_
    rintro r u ⟨rfl, hu⟩; have hu2 := hu.symm; subst hu2; clear hu
    go_wp2
    go_quiet (fail)
    go_wp2
    go_ret
    exact ⟨ret_int HC.out.symm, below_drewN (Below.refl _ _) _⟩
  have e3 : (i != k) = false := by simpa using q3
  by_cases q4 : p.length ≤ 6
  case neg =>
    have e4 : ¬ (p.length : Int) ≤ 6 := by omega
    have HC : Hid (sd = 2) := by show _ = _; rw [HS.out, if_pos q1, if_pos q2, if_pos q3, if_neg q4]
    clear AP HS q1 q2 q3 q4
    go_enter Tryz.func50, Tryz.ntmps50
    go_wp2_with fail
    refine (HF).mono ?_
    rintro r u ⟨rfl, hu⟩; have hu2 := hu.symm; subst hu2; clear hu
    go_wp2_with fail
    refine (SF).mono ?_
    rintro r u ⟨rfl, hu⟩; have hu2 := hu.symm; subst hu2; clear hu
    go_wp2
    go_quiet (fail)
    go_wp2
    go_ret
    exact ⟨ret_int HC.out.symm, below_drewN (Below.refl _ _) _⟩
  have e4 : (p.length : Int) ≤ 6 := by omega
  have HC : Hid (sd = suF p) := by show _ = _; rw [HS.out, if_pos q1, if_pos q2, if_pos q3, if_pos q4]
  cases ha : allS p with
  | true =>
    have HD : Hid (sd = 0) := by show _ = _; rw [HC.out]; unfold suF; rw [if_pos ha]
    have AP1 := AP.out
    rw [ha] at AP1
    clear AP
    have AP : Hid (_) := AP1
    clear AP1
    clear HS HC q1 q2 q3 q4 ha
    go_enter Tryz.func50, Tryz.ntmps50
    go_wp2_with fail
    refine (HF).mono ?_
    rintro r u ⟨rfl, hu⟩; have hu2 := hu.symm; subst hu2; clear hu
    go_wp2_with fail
    refine (SF).mono ?_
    rintro r u ⟨rfl, hu⟩; have hu2 := hu.symm; subst hu2; clear hu
    go_wp2
    go_quiet (fail)
    go_wp2_with fail
    refine (AP.out _).mono ?_
    rintro r u ⟨rfl, hu⟩; have hu2 := hu.symm; subst hu2; clear hu
    go_wp2
    go_ret
    exact ⟨ret_int HD.out.symm, below_drewN (Below.refl _ _) _⟩
  | false =>
    have HD : Hid (sd = 3) := by show _ = _; rw [HC.out]; unfold suF; rw [ha]; rfl
    have AP1 := AP.out
    rw [ha] at AP1
    clear AP
    have AP : Hid (_) := AP1
    clear AP1
    clear HS HC q1 q2 q3 q4 ha
    go_enter Tryz.func50, Tryz.ntmps50
    go_wp2_with fail
    refine (HF).mono ?_
    rintro r u ⟨rfl, hu⟩; have hu2 := hu.symm; subst hu2; clear hu
    go_wp2_with fail
    refine (SF).mono ?_
    rintro r u ⟨rfl, hu⟩; have hu2 := hu.symm; subst hu2; clear hu
    go_wp2
    go_quiet (fail)
    go_wp2_with fail
    refine (AP.out _).mono ?_
    rintro r u ⟨rfl, hu⟩; have hu2 := hu.symm; subst hu2; clear hu
    go_wp2
    go_ret
    exact ⟨ret_int HD.out.symm, below_drewN (Below.refl _ _) _⟩

set_option maxHeartbeats 1000000 in
theorem specSignedFault_any (z r m k i : Int) (a b c : Option Addr) (ca cb cc : Nat) (sh ot p : List Int) (w : World) (hs : Has w .i64 a sh.length sh) (ho : Has w .i64 b ot.length ot) (hp : Has w .i64 c p.length p) (h1 : sh.length ≤ 1048576) (h2 : ot.length ≤ 1048576) (h3 : p.length ≤ 1048576) :
    Calls Tryz.prog 21 #[.agg #[.int .i64 z, .int .i64 r, .int .i64 m, .int .i64 k, .int .i64 i, .slice a sh.length ca, .slice b ot.length cb, .slice c p.length cc]] w fun e w' => e = .returned (.int .i64 (sdF z r m k i sh ot p)) ∧ Below w.heap.size w w' := by
  have FA := l9Signed_any w.heap.size z r m k i a b c ca cb cc sh ot p _ (⟨Blk.new w _ 38, hs.alloc _, ho.alloc _, hp.alloc _⟩ : SdAt _ _ _ _ _ _ _ _ _ _ _ _ _ _ _ _) h1 h2 h3
  clear hs ho hp
  go_enter Tryz.func21, Tryz.ntmps21
  go_wp2_with fail
  refine FA.mono ?_
  rintro r u ⟨rfl, hu⟩
  go_wp2
  go_ret
  exact ⟨rfl, ((Below.refl _ _).alloc (Nat.le_refl _) _).trans (hu.mono (by simp))⟩

end Go.Proofs.YtffidkoejlebeaaGreatDoor
