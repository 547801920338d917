/- Contract: the program's CheckHead. -/
import Derived.Test.YtffidkoejlebeaaGreatDoorIHq
import Derived.Test.YtffidkoejlebeaaGreatDoorKyC
import Derived.Test.YtffidkoejlebeaaGreatDoorHdC
namespace Go.Proofs.YtffidkoejlebeaaGreatDoor
open Go.ChangeShapes Go.WideShapes Go.ChangeAt Go.RowKit
set_option maxRecDepth 100000
set_option linter.unusedVariables false
set_option linter.unusedSimpArgs false

set_option maxHeartbeats 8000000 in
theorem implCheckHead_any (root n z r m k i : Int) (a b c : Option Addr) (ca cb cc : Nat) (sh ot p : List Int) (w : World) (hT : Tab w) (hs : Has w .i64 a sh.length sh) (ho : Has w .i64 b ot.length ot) (hp : Has w .i64 c p.length p) (h1 : sh.length ≤ 1048576) (h2 : ot.length ≤ 1048576) (h3 : p.length ≤ 1048576) (hcc : p.length ≤ cc) (hm : cc ≤ maxLen) :
    Calls Tryz.prog 16 #[.int .i64 root, .int .i64 n, .agg #[.int .i64 z, .int .i64 r, .int .i64 m, .int .i64 k, .int .i64 i, .slice a sh.length ca, .slice b ot.length cb, .slice c p.length cc]] w fun e w' => e = .returned (.bool (chB root n z r m k i sh ot p)) ∧ Below w.heap.size w w' := by
  have SO : Hid (∀ u : World, Calls Tryz.prog 47 #[.agg #[.int .i64 z, .int .i64 r, .int .i64 m, .int .i64 k, .int .i64 i, .slice a sh.length ca, .slice b ot.length cb, .slice c p.length cc]] u fun e w' => e = .returned (.agg #[.int .i64 z, .int .i64 r, .int .i64 m, .int .i64 k, .int .i64 i, .slice a sh.length ca, .slice b ot.length cb, .slice c p.length cc]) ∧ Below u.heap.size u w') := fun u => signedHeadOf_any z r m k i a b c ca cb cc sh ot p u
  have SF : Hid (∀ u : World, Below w.heap.size w u → Calls Tryz.prog 48 #[.agg #[.int .i64 z, .int .i64 r, .int .i64 m, .int .i64 k, .int .i64 i, .slice a sh.length ca, .slice b ot.length cb, .slice c p.length cc]] u fun e w' => e = .returned (.int .i64 (sdF z r m k i sh ot p)) ∧ Below u.heap.size u w') := fun u h => signedFault_any z r m k i a b c ca cb cc sh ot p u (hs.below h (Nat.le_refl _)) (ho.below h (Nat.le_refl _)) (hp.below h (Nat.le_refl _)) h1 h2 h3
  have HS : Hid (∀ u : World, Below w.heap.size w u → Calls Tryz.prog 46 #[.agg #[.int .i64 z, .int .i64 r, .int .i64 m, .int .i64 k]] u fun e w' => e = .returned (.agg #[.int .i64 (hdF z r m k), .int .i64 (hsV z r m k)]) ∧ Below u.heap.size u w') := fun u h => hsum_any z r m k u (hT.below h (Nat.le_refl _))
  have CK : Hid (∀ u : World, Below w.heap.size w u → Calls Tryz.prog 49 #[.agg #[.int .i64 i, .slice a sh.length ca, .slice b ot.length cb], .int .i64 (hdV z r m k), .int .i64 n, .slice c p.length cc, .int .i64 root] u fun r' w' => r' = .returned (.bool (ckB i sh ot (hdV z r m k) n p root)) ∧ Below u.heap.size u w') := fun u h => implCheckSign_any i (hdV z r m k) n root a b c ca cb cc sh ot p u (hT.below h (Nat.le_refl _)) (hs.below h (Nat.le_refl _)) (ho.below h (Nat.le_refl _)) (hp.below h (Nat.le_refl _)) h1 h2 h3 hcc hm
  have HB : Hid (chB root n z r m k i sh ot p = (decide (sdF z r m k i sh ot p = 0) && ckB i sh ot (hdV z r m k) n p root)) := rfl
  have HV : Hid (sdF z r m k i sh ot p = 0 → hsV z r m k = hdV z r m k) := fun e => by unfold hsV; rw [if_pos (sdF_zero e).1]
  have hf1 := fldR1
  generalize chB root n z r m k i sh ot p = RR at *
  generalize sdF z r m k i sh ot p = sd at *
  generalize ckB i sh ot (hdV z r m k) n p root = kk at *
  generalize hdV z r m k = hv at *
  generalize hsV z r m k = hw at *
  generalize hdF z r m k = hd at *
  clear hT hs ho hp h1 h2 h3 hcc hm
  go_enter Tryz.func16, Tryz.ntmps16
  go_wp2_with fail
  refine (SO.out _).mono ?_
  rintro e u1 ⟨rfl, hb1⟩
  have B1 : Below w.heap.size w u1 := ((Below.refl _ _).alloc (Nat.le_refl _) _).trans (hb1.mono (by simp))
  obtain ⟨V, hV⟩ : ∃ V, V = u1.heap.size := ⟨_, rfl⟩
  obtain ⟨E, hE⟩ : ∃ E, E = u1.alloc (.cells #[.int .i64 z, .int .i64 r, .int .i64 m, .int .i64 k, .int .i64 i, .slice a sh.length ca, .slice b ot.length cb, .slice c p.length cc] 81) := ⟨_, rfl⟩
  have BE : Below w.heap.size w E := by rw [hE]; exact B1.alloc B1.size _
  have GE : Blk E V #[.int .i64 z, .int .i64 r, .int .i64 m, .int .i64 k, .int .i64 i, .slice a sh.length ca, .slice b ot.length cb, .slice c p.length cc] 81 := by rw [hE, hV]; exact Blk.new _ _ _
  have VL := GE.lt
  have K0 := KeptW.cell (W := E) (b := V) (o := 0) (v := .int .i64 z) ((GE.cell 0).trans rfl) VL
  have K1 := KeptW.cell (W := E) (b := V) (o := 1) (v := .int .i64 r) ((GE.cell 1).trans rfl) VL
  have K2 := KeptW.cell (W := E) (b := V) (o := 2) (v := .int .i64 m) ((GE.cell 2).trans rfl) VL
  have K3 := KeptW.cell (W := E) (b := V) (o := 3) (v := .int .i64 k) ((GE.cell 3).trans rfl) VL
  have K4 := KeptW.cell (W := E) (b := V) (o := 4) (v := .int .i64 i) ((GE.cell 4).trans rfl) VL
  have K5 := KeptW.cell (W := E) (b := V) (o := 5) (v := .slice a sh.length ca) ((GE.cell 5).trans rfl) VL
  have K6 := KeptW.cell (W := E) (b := V) (o := 6) (v := .slice b ot.length cb) ((GE.cell 6).trans rfl) VL
  have K7 := KeptW.cell (W := E) (b := V) (o := 7) (v := .slice c p.length cc) ((GE.cell 7).trans rfl) VL
  have hne : Nonempty (KeptW E) := ⟨⟨E, Below.refl _ _⟩⟩
  have KB : Hid (∀ d : KeptW E, Below w.heap.size w d.wd) := fun d => BE.trans (d.hb.mono BE.size)
  clear GE hb1 B1 BE
  by_cases q : sd = 0
  · have RB : Hid (RR = kk) := by show _ = _; rw [HB.out, decide_eq_true q]; rfl
    have EV := HV.out q
    subst EV
    subst q
    clear HB HV SO
    go_wp2_with fail
    simp only [← hV, ← hE]
    clear hV hE
    refine wp_region_kept (by kernel_rfl) (by kernel_rfl) ?_
    iterate 17 (go_big_quiet_step (first | (go_at_call 48; exact KeptW.calls (SF.out _ (KB.out _))) | (go_at_call 46; exact KeptW.calls (HS.out _ (KB.out _))) | (go_at_call 49; exact KeptW.calls (CK.out _ (KB.out _)))))
    refine wpQuiet_nil ?_
    rintro _ ⟨d, rfl⟩
    have FD := KB.out d
    clear SF HS CK KB K0 K1 K2 K3 K4 K5 K6 K7
    go_wp2
    go_ret
    exact ⟨ret_bool RB.out.symm, FD⟩
  · have RB : Hid (RR = false) := by show _ = _; rw [HB.out, decide_eq_false q]; rfl
    have qb : (sd == 0) = false := by simpa using q
    clear HB HV SO CK HS q
    go_wp2_with fail
    simp only [← hV, ← hE]
    clear hV hE
    refine wp_region_kept (by kernel_rfl) (by kernel_rfl) ?_
    iterate 17 (go_big_quiet_step (first | (go_at_call 48; exact KeptW.calls (SF.out _ (KB.out _))) | fail))
    refine wpQuiet_nil ?_
    rintro _ ⟨d, rfl⟩
    have FD := KB.out d
    clear SF KB K0 K1 K2 K3 K4 K5 K6 K7
    go_wp2
    go_ret
    exact ⟨ret_bool RB.out.symm, FD⟩

end Go.Proofs.YtffidkoejlebeaaGreatDoor
