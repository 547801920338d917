/- Plain facts: a head that was signed is taken by who has the root of the keys; a signed head is the same as itself. -/
import Derived.Test.YtffidkoejlebeaaGreatDoorHdC
import Derived.Test.YtffidkoejlebeaaGreatDoorPathsP
import Derived.Test.YtffidkoejlebeaaGreatDoorIHs
namespace Go.Proofs.YtffidkoejlebeaaGreatDoor
open Go.ChangeShapes Go.WideShapes Go.ChangeAt Go.RowKit
set_option linter.unusedVariables false
set_option linter.unusedSimpArgs false

theorem sg_checked {s n z r m k : Int} (h : sgC s n z r m k = 0) : chB (krV s n) n z r m k k (sgS s n z r m k) (sgO s n z r m k) (sgP s n z r m k) = true := by
  have F := sg_fault h
  obtain ⟨hb, ho, hk⟩ := sgC_zero h
  obtain ⟨_, _, _, bk⟩ := hdB_iff.1 hb
  have ho' := ho
  unfold krOk at ho'
  obtain ⟨bs, bn⟩ := of_decide_eq_true ho'
  have bx := hdV_bd z r m k
  unfold chB
  rw [decide_eq_true F, Bool.true_and]
  have e1 : sgS s n z r m k = shW s k (hdV z r m k) (List.range 16) := by unfold sgS; rw [if_pos h]
  have e2 : sgO s n z r m k = otW s k (hdV z r m k) (List.range 16) := by unfold sgO; rw [if_pos h]
  have e3 : sgP s n z r m k = ptM nS 11 (keysL s n.toNat) k := by unfold sgP; rw [if_pos h]
  rw [e1, e2, e3]
  generalize hdV z r m k = x at bx ⊢
  have LS : (shW s k x (List.range 16)).length = 16 := by rw [shW_len]; simp
  have LO : (otW s k x (List.range 16)).length = 16 := by rw [otW_len]; simp
  have OF : sgF k (shW s k x (List.range 16)) (otW s k x (List.range 16)) = 0 := sgF_of bk LS LO (shW_all s k x _) (otW_all s k x _)
  have OC : opC k (shW s k x (List.range 16)) (otW s k x (List.range 16)) x = 0 := by unfold opC; rw [if_pos OF, if_pos bx]
  have OV : opV k (shW s k x (List.range 16)) (otW s k x (List.range 16)) x = keyS (pubL s k) := by unfold opV; rw [if_pos OC, opW_sign]
  obtain ⟨j, rfl⟩ := Int.eq_ofNat_of_zero_le bk.1
  obtain ⟨N, rfl⟩ := Int.eq_ofNat_of_zero_le (show 0 ≤ n by omega)
  rw [Int.toNat_natCast]
  have hjN : j < N := by omega
  have KL := keysL_len s N
  have KF : lvF (keysL s N) = 0 := by unfold lvF; rw [keysL_all s N, KL, if_neg (by omega)]; rfl
  have KG : (keysL s N).getD j 0 = keyS (pubL s j) := keysL_get s hjN
  obtain ⟨CP1, CP2, CP3⟩ := climb_pt (zs := keysL s N) (a := j) KF (by omega) (by rw [KL]; omega)
  have hP : ptL (keysL s N) j = ptM nS 11 (keysL s N) j := by unfold ptL; rw [if_pos ⟨KF, by omega, by rw [KL]; omega⟩]
  rw [KL, Int.toNat_natCast, KG, hP] at CP1 CP2
  have RV : rtV (keysL s N) = krV s N := by
    unfold rtV krV
    rw [if_pos KF, if_pos ho, Int.toNat_natCast]
  rw [RV] at CP2
  unfold ckB
  rw [OV]
  exact decide_eq_true ⟨OC, CP1, CP2⟩

theorem smB_self (z r m k i : Int) (sh ot p : List Int) : smB z r m k i sh ot p z r m k i sh ot p = true := by simp [smB]

theorem sgC_cases {s n z r m k : Int} (h : ¬ sgC s n z r m k = 0) : sgC s n z r m k = 3 ∨ sgC s n z r m k = 11 := by
  unfold sgC at h ⊢
  repeat (first | (split) | (split at h) | omega | simp_all)

end Go.Proofs.YtffidkoejlebeaaGreatDoor
