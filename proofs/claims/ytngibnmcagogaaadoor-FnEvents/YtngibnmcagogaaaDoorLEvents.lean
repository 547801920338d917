/- At every code the law on events holds: an event is read back from its bytes, and there is one way to write it alone; the table that begins pieces starts as the program's text lays it. -/
import Derived.Test.YtngibnmcagogaaaDoorReadI
import Derived.Test.YtngibnmcagogaaaDoorReadE
import Derived.Test.YtngibnmcagogaaaDoorDrawR
import Derived.Test.YtngibnmcagogaaaDoorTrip
import Derived.Test.YtngibnmcagogaaaDoorEvSum
import Derived.Test.YtngibnmcagogaaaDoorIPut
import Derived.Test.YtngibnmcagogaaaDoorEvL
import Derived.Test.YtngibnmcagogaaaDoorDoor
import Derived.Deep.DeepCutAuto
import Derived.Test.YtngibnmcagogaaaDoorDoor
namespace Go.Proofs.YtngibnmcagogaaaDoor
open Go.ChangeShapes Go.WideShapes Go.ChangeAt Go.RowKit
set_option linter.unusedVariables false
set_option linter.unusedSimpArgs false

set_option maxRecDepth 100000 in
set_option maxHeartbeats 4000000 in
theorem fnEvents_walk (w : World) (hT : Tab w) (a0 : Option Addr) (len0 cap0 : Nat) (z0 : List Int) (w0 : IsRow .u8 w a0 len0 cap0 z0) :
    Calls Tryd.prog 9 #[.slice a0 len0 cap0] w fun e w' => e = .returned (.bool true) ∧ Below w.heap.size w w' := by
  have A0 := Has.of_row w0
  have hlen := A0.1
  generalize z0.take len0 = zs at A0 hlen
  subst hlen
  clear w0
  by_cases hbig : 1048576 < zs.length
  · go_enter Tryd.func9, Tryd.ntmps9
    go_wp2_with fail
    refine (lwBig_yes _ a0 _ cap0 hbig).mono ?_
    rintro r u ⟨rfl, rfl⟩
    go_wp2
    go_ret
    exact ⟨rfl, Below.refl _ _⟩
  · have hsm : zs.length ≤ 1048576 := by omega
    have FA : Hid (∀ wx : World, Below w.heap.size w wx → Has wx .u8 a0 zs.length zs ∧ Tab wx) := fun wx h => ⟨A0.below h (Nat.le_refl _), hT.below h (Nat.le_refl _)⟩
    clear hT
    go_enter Tryd.func9, Tryd.ntmps9
    go_wp2_with fail
    refine (lwBig_no _ a0 _ cap0 hsm).mono ?_
    rintro r u ⟨rfl, hu⟩
    have hu2 := hu.symm
    subst hu2
    clear hu
    go_wp2_with fail
    refine (drawReadEvent_any _ a0 _ cap0 zs A0 hsm).mono ?_
    rintro e u1 ⟨g, c1, ys, rfl, yl, yc, ym, Y1, hb1⟩
    have z1 := hb1.size
    go_wp2_with fail
    refine (implReadEvent_any g 0 c1 ys _ Y1 (by omega) yc ym).mono ?_
    rintro r u2 ⟨a2, c2, rfl, O2, hb2⟩
    have z2 := hb2.size
    have YW : Hid (∀ n ∈ ys, (Lit.int .u8 n).wf = true) := Y1.2.1
    have RW : Hid (∀ n ∈ rZ ys, (Lit.int .u8 n).wf = true) := fun n hn => YW.out n (by unfold rZ at hn; split at hn; exact List.mem_of_mem_drop (List.mem_of_mem_take hn); cases hn)
    have N2 := has_of_own O2 RW.out
    have Y2 := Y1.below hb2 (Nat.le_refl _)
    have B2 := hb1.trans (hb2.mono (by omega))
    clear O2 Y1 hb1 hb2 A0
    go_wp2_with fail
    refine (drawPutInt_any _ a0 _ cap0 zs ((FA.out _ B2).1.alloc _) hsm).mono ?_
    rintro e u3 ⟨n, rfl, n0, n1, hb3⟩
    have z3 := hb3.size
    simp at z3
    have V3 := (Er.new u2 (rdC ys) (rS ys) (rV ys) (rK ys) (rX ys) a2 (rZ ys).length c2 (rU ys) 48).below hb3 (by simp)
    have Y3 := (Y2.alloc _).below hb3 (Nat.le_refl _)
    have N3 := (N2.alloc _).below hb3 (Nat.le_refl _)
    have B3 := (B2.alloc (by omega) _).trans (hb3.mono (by simp; omega))
    clear hb3 Y2 N2 B2
    go_wp2_with fail
    refine (drawGetInt_any _ a0 _ cap0 zs (FA.out _ B3).1 hsm).mono ?_
    rintro e Z ⟨a4, c4, ds, k, rfl, dl, dc, dm, D4, hb4⟩
    have z4 := hb4.size
    have V4 := V3.below hb4 (by omega)
    have Y4 := Y3.below hb4 (Nat.le_refl _)
    have N4 := N3.below hb4 (Nat.le_refl _)
    have B4 := B3.trans (hb4.mono (by omega))
    clear hb4 V3 Y3 N3 B3
    have pz : u2.heap.size < Z.heap.size := by omega
    generalize u2.heap.size = p at V4 pz ⊢
    have RE : Hid (∀ wx : World, Below Z.heap.size Z wx → Calls Tryd.prog 41 #[.slice (some ⟨g, 0, none⟩) ys.length c1] wx fun r w' => ∃ a' c', r = .returned (.agg #[.int .i64 (rdC ys), .int .i64 (rS ys), .int .i64 (rV ys), .int .i64 (rK ys), .int .i64 (rX ys), .slice a' (rZ ys).length c', .int .i64 (rU ys)]) ∧ w'.ownsRow wx.heap.size 5 1 (.slice a' (rZ ys).length c') (rZ ys).length ((rZ ys).map (.int .u8)) ∧ Below wx.heap.size wx w') := fun wx h => specReadEvent_any _ _ ys wx (Y4.below h (Nat.le_refl _)) (by omega) yc ym
    have CASES : Hid ((rdC ys = 0 ∧ ∃ N : Nat, N ≤ ys.length ∧ N ≤ 30 ∧ rU ys = (N : Int) ∧ evF (rS ys) (rV ys) (rK ys) (rX ys) (rZ ys).length = 0 ∧ packB (rS ys) (rV ys) (rK ys) (rX ys) (rZ ys) = ys.take N ∧ (-9223372036854775808 ≤ rX ys ∧ rX ys ≤ 9223372036854775807)) ∨ rdC ys = 5) := by
      by_cases hok : rdOk ys
      · obtain ⟨q0, q1, q2, q3, q4, q5, q6⟩ := r_ok hok
        have hfz : evF (rS ys) (rV ys) (rK ys) (rX ys) (rZ ys).length = 0 := by rw [q1, q2, q3, q4, q5, rdZ_len hok.1]; exact hok.2
        refine .inl ⟨q0, 13 + rdM ys, hok.1.2, by have := hok.1.2; omega, by rw [q6]; simp, hfz, ?_, by rw [q4]; exact rdX_bd ys⟩
        unfold packB
        rw [if_pos hfz, q1, q2, q3, q4, q5]
        exact pack_read YW.out hok.1
      · exact .inr (r_bad hok).1
    obtain ⟨N4l, NW⟩ : Hid ((rZ ys).length ≤ 1048576) ∧ Hid (∀ n ∈ rZ ys, (Lit.int .u8 n).wf = true) := ⟨(by show (rZ ys).length ≤ _; unfold rZ; split; (unfold rdZ; simp; omega); simp), RW.out⟩
    clear RW
    generalize rdC ys = cd at *
    generalize rS ys = es at *
    generalize rV ys = ev at *
    generalize rK ys = ek at *
    generalize rX ys = ex at *
    generalize rZ ys = nz at *
    generalize rU ys = us at *
    have nzl : nz.length ≤ 1048576 := N4l.out
    have KSH : Hid (∀ wx : World, Below Z.heap.size Z wx → wx.cell? ⟨p, 0, none⟩ = some (.int .i64 cd) ∧ wx.cell? ⟨p, 1, none⟩ = some (.int .i64 es) ∧ wx.cell? ⟨p, 2, none⟩ = some (.int .i64 ev) ∧ wx.cell? ⟨p, 3, none⟩ = some (.int .i64 ek) ∧ wx.cell? ⟨p, 4, none⟩ = some (.int .i64 ex) ∧ wx.cell? ⟨p, 5, none⟩ = some (.slice a2 nz.length c2) ∧ wx.cell? ⟨p, 6, none⟩ = some (.int .i64 us) ∧ Below Z.heap.size Z wx) := fun wx h => (by obtain ⟨k0, k1, k2, k3, k4, k5, k6⟩ := V4.below h pz; exact ⟨k0, k1, k2, k3, k4, k5, k6, h⟩)
    have KTH : Hid (∀ wx wy : World, wx.cell? ⟨p, 0, none⟩ = some (.int .i64 cd) ∧ wx.cell? ⟨p, 1, none⟩ = some (.int .i64 es) ∧ wx.cell? ⟨p, 2, none⟩ = some (.int .i64 ev) ∧ wx.cell? ⟨p, 3, none⟩ = some (.int .i64 ek) ∧ wx.cell? ⟨p, 4, none⟩ = some (.int .i64 ex) ∧ wx.cell? ⟨p, 5, none⟩ = some (.slice a2 nz.length c2) ∧ wx.cell? ⟨p, 6, none⟩ = some (.int .i64 us) ∧ Below Z.heap.size Z wx → Below wx.heap.size wx wy → wy.cell? ⟨p, 0, none⟩ = some (.int .i64 cd) ∧ wy.cell? ⟨p, 1, none⟩ = some (.int .i64 es) ∧ wy.cell? ⟨p, 2, none⟩ = some (.int .i64 ev) ∧ wy.cell? ⟨p, 3, none⟩ = some (.int .i64 ek) ∧ wy.cell? ⟨p, 4, none⟩ = some (.int .i64 ex) ∧ wy.cell? ⟨p, 5, none⟩ = some (.slice a2 nz.length c2) ∧ wy.cell? ⟨p, 6, none⟩ = some (.int .i64 us) ∧ Below Z.heap.size Z wy) := fun wx wy h hb => KSH.out wy (h.2.2.2.2.2.2.2.trans (hb.mono h.2.2.2.2.2.2.2.size))
    have hp8 := putL_len n 8
    have HP8 : Hid ((putL n 8).length = 8) := hp8
    clear hp8
    have PI : Hid (∀ wx : World, wx.cell? ⟨p, 0, none⟩ = some (.int .i64 cd) ∧ wx.cell? ⟨p, 1, none⟩ = some (.int .i64 es) ∧ wx.cell? ⟨p, 2, none⟩ = some (.int .i64 ev) ∧ wx.cell? ⟨p, 3, none⟩ = some (.int .i64 ek) ∧ wx.cell? ⟨p, 4, none⟩ = some (.int .i64 ex) ∧ wx.cell? ⟨p, 5, none⟩ = some (.slice a2 nz.length c2) ∧ wx.cell? ⟨p, 6, none⟩ = some (.int .i64 us) ∧ Below Z.heap.size Z wx → Calls Tryd.prog 44 #[.int .i64 n] wx fun r w' => ∃ a' c', r = .returned (.agg #[.int .i64 0, .slice a' 8 c']) ∧ w'.ownsRow wx.heap.size 5 1 (.slice a' 8 c') 8 ((putL n 8).map (.int .u8)) ∧ Below wx.heap.size wx w') := fun wx _ => implPutInt_any n wx n0 n1
    have QW : Hid (∀ (wx : World) (base : Nat) (a : Option Addr) (c : Nat), wx.ownsRow base 5 1 (.slice a 8 c) 8 ((putL n 8).map (.int .u8)) → Has wx .u8 a (putL n 8).length (putL n 8) ∧ 8 ≤ c ∧ c ≤ maxLen) := fun wx base a c h => by
      obtain ⟨_, c', e1, _, _, h1, h2⟩ := own_form h (by omega)
      simp at e1
      rw [e1.2]
      exact ⟨has_of_own h (putL_wf n 8), h1, h2⟩
    have GI : Hid (∀ (wx : World) (a : Option Addr) (c : Nat), Has wx .u8 a (putL n 8).length (putL n 8) ∧ 8 ≤ c ∧ c ≤ maxLen → Calls Tryd.prog 43 #[.slice a 8 c, .int .i64 0] wx fun r w' => r = .returned (.agg #[.int .i64 0, .int .i64 n]) ∧ Below wx.heap.size wx w') := fun wx a c h => by
      have := implGetInt_any a c (putL n 8) 0 wx h.1 (by rw [HP8.out]; omega) (by rw [HP8.out]; exact h.2.1) h.2.2
      rw [HP8.out] at this
      have e1 : getC (putL n 8) 0 = 0 := by unfold getC; rw [HP8.out]; simp
      have e2 : getV (putL n 8) 0 = n := by unfold getV; rw [HP8.out]; simp; exact get_put n n0 n1
      rw [e1, e2] at this
      exact this
    have GD : Hid (∀ wx : World, wx.cell? ⟨p, 0, none⟩ = some (.int .i64 cd) ∧ wx.cell? ⟨p, 1, none⟩ = some (.int .i64 es) ∧ wx.cell? ⟨p, 2, none⟩ = some (.int .i64 ev) ∧ wx.cell? ⟨p, 3, none⟩ = some (.int .i64 ek) ∧ wx.cell? ⟨p, 4, none⟩ = some (.int .i64 ex) ∧ wx.cell? ⟨p, 5, none⟩ = some (.slice a2 nz.length c2) ∧ wx.cell? ⟨p, 6, none⟩ = some (.int .i64 us) ∧ Below Z.heap.size Z wx → Calls Tryd.prog 43 #[.slice a4 ds.length c4, .int .i64 k] wx fun r w' => r = .returned (.agg #[.int .i64 (getC ds k), .int .i64 (getV ds k)]) ∧ Below wx.heap.size wx w') := fun wx h => implGetInt_any a4 c4 ds k wx (D4.below h.2.2.2.2.2.2.2 (Nat.le_refl _)) (by omega) dc dm
    have SD : Hid (∀ wx : World, wx.cell? ⟨p, 0, none⟩ = some (.int .i64 cd) ∧ wx.cell? ⟨p, 1, none⟩ = some (.int .i64 es) ∧ wx.cell? ⟨p, 2, none⟩ = some (.int .i64 ev) ∧ wx.cell? ⟨p, 3, none⟩ = some (.int .i64 ek) ∧ wx.cell? ⟨p, 4, none⟩ = some (.int .i64 ex) ∧ wx.cell? ⟨p, 5, none⟩ = some (.slice a2 nz.length c2) ∧ wx.cell? ⟨p, 6, none⟩ = some (.int .i64 us) ∧ Below Z.heap.size Z wx → Calls Tryd.prog 45 #[.slice a4 ds.length c4, .int .i64 k] wx fun r w' => r = .returned (.agg #[.int .i64 (getC ds k), .int .i64 (getV ds k)]) ∧ Below wx.heap.size wx w') := fun wx h => specGetInt_any a4 c4 ds k wx (D4.below h.2.2.2.2.2.2.2 (Nat.le_refl _)) (by omega) dc dm
    have RE2 : Hid (∀ wx : World, wx.cell? ⟨p, 0, none⟩ = some (.int .i64 cd) ∧ wx.cell? ⟨p, 1, none⟩ = some (.int .i64 es) ∧ wx.cell? ⟨p, 2, none⟩ = some (.int .i64 ev) ∧ wx.cell? ⟨p, 3, none⟩ = some (.int .i64 ek) ∧ wx.cell? ⟨p, 4, none⟩ = some (.int .i64 ex) ∧ wx.cell? ⟨p, 5, none⟩ = some (.slice a2 nz.length c2) ∧ wx.cell? ⟨p, 6, none⟩ = some (.int .i64 us) ∧ Below Z.heap.size Z wx → Calls Tryd.prog 41 #[.slice (some ⟨g, 0, none⟩) ys.length c1] wx fun r w' => ∃ a' c', r = .returned (.agg #[.int .i64 cd, .int .i64 es, .int .i64 ev, .int .i64 ek, .int .i64 ex, .slice a' nz.length c', .int .i64 us]) ∧ w'.ownsRow wx.heap.size 5 1 (.slice a' nz.length c') nz.length (nz.map (.int .u8)) ∧ Below wx.heap.size wx w') := fun wx h => RE.out wx h.2.2.2.2.2.2.2
    have hf1 := fld_er0
    have hf2 := fld_bytes
    have hf3 := fld_int0
    have hf4 := fld_int
    have hnn : (n != n) = false := by simp
    have hc1 : (getC ds k != getC ds k) = false := by simp
    have hc2 : (getV ds k != getV ds k) = false := by simp
    generalize getC ds k = dC at *
    generalize getV ds k = dV at *
    have hcd : (cd != cd) = false := by simp
    obtain ⟨v0, v1, v2, v3, v4, v5, v6⟩ := V4
    have FIN : Hid (Below w.heap.size w Z) := B4
    have B4s : w.heap.size ≤ Z.heap.size := B4.size
    clear RE B4
    go_wp2_with fail
    go_cut [96] (fun s96 wx => s96 = .bool false ∧ Below Z.heap.size Z wx)
    case first =>
     rcases CASES.out with ⟨h0, N, hN1, hN2, hus, hev, hpk, hxb⟩ | h5
     · subst h0
       subst hus
       have htl : (ys.take N).length = N := by simp; omega
       have HTL : Hid ((ys.take N).length = N) := htl
       have c1N : (N : Int) ≤ (c1 : Int) := by omega
       have N0' : (0 : Int) ≤ (N : Int) := by omega
       have NyI : (N : Int) ≤ (ys.length : Int) := by omega
       have PE : Hid (∀ wx : World, wx.cell? ⟨p, 0, none⟩ = some (.int .i64 0) ∧ wx.cell? ⟨p, 1, none⟩ = some (.int .i64 es) ∧ wx.cell? ⟨p, 2, none⟩ = some (.int .i64 ev) ∧ wx.cell? ⟨p, 3, none⟩ = some (.int .i64 ek) ∧ wx.cell? ⟨p, 4, none⟩ = some (.int .i64 ex) ∧ wx.cell? ⟨p, 5, none⟩ = some (.slice a2 nz.length c2) ∧ wx.cell? ⟨p, 6, none⟩ = some (.int .i64 N) ∧ Below Z.heap.size Z wx → Calls Tryd.prog 42 #[.agg #[.int .i64 es, .int .i64 ev, .int .i64 ek, .int .i64 ex, .slice a2 nz.length c2]] wx fun r w' => ∃ a' c', r = .returned (.agg #[.int .i64 0, .slice a' N c']) ∧ w'.ownsRow wx.heap.size 5 1 (.slice a' N c') N ((ys.take N).map (.int .u8)) ∧ Below wx.heap.size wx w') := fun wx h => by
         have := implPackEvent_any es ev ek ex a2 c2 nz wx (N4.below h.2.2.2.2.2.2.2 (Nat.le_refl _)) hxb.1 hxb.2 (by omega)
         rw [hev, hpk, HTL.out] at this
         exact this
       have PW : Hid (∀ (wx : World) (base : Nat) (a : Option Addr) (c : Nat), wx.ownsRow base 5 1 (.slice a N c) N ((ys.take N).map (.int .u8)) → Has wx .u8 a (ys.take N).length (ys.take N)) := fun wx base a c h => has_of_own h (fun x hx => YW.out x (List.mem_of_mem_take hx))
       have LW : Hid (∀ (wx : World) (a : Option Addr) (c : Nat), wx.cell? ⟨p, 0, none⟩ = some (.int .i64 0) ∧ wx.cell? ⟨p, 1, none⟩ = some (.int .i64 es) ∧ wx.cell? ⟨p, 2, none⟩ = some (.int .i64 ev) ∧ wx.cell? ⟨p, 3, none⟩ = some (.int .i64 ek) ∧ wx.cell? ⟨p, 4, none⟩ = some (.int .i64 ex) ∧ wx.cell? ⟨p, 5, none⟩ = some (.slice a2 nz.length c2) ∧ wx.cell? ⟨p, 6, none⟩ = some (.int .i64 N) ∧ Below Z.heap.size Z wx → Has wx .u8 a (ys.take N).length (ys.take N) → Calls Tryd.prog 20 #[.slice a N c, .slice (some ⟨g, 0, none⟩) N c1] wx fun r w' => r = .returned (.bool true) ∧ w' = wx) := fun wx a c h hh => by
         have := lwBytes_any a (some ⟨g, 0, none⟩) c c1 (ys.take N) (ys.take N) wx hh (takeHas (Y4.below h.2.2.2.2.2.2.2 (Nat.le_refl _)) N (by omega))
         rw [HTL.out] at this
         simpa using this
       have hd0 : decide ((N : Int) < 0) = false := by simp
       have hd1 : decide (ys.length < N) = false := by simp; omega
       clear htl hev hpk
       refine wp_region_noPanic ?_
       refine wp_region_held_drew (S := fun wx => wx.cell? ⟨p, 0, none⟩ = some (.int .i64 0) ∧ wx.cell? ⟨p, 1, none⟩ = some (.int .i64 es) ∧ wx.cell? ⟨p, 2, none⟩ = some (.int .i64 ev) ∧ wx.cell? ⟨p, 3, none⟩ = some (.int .i64 ek) ∧ wx.cell? ⟨p, 4, none⟩ = some (.int .i64 ex) ∧ wx.cell? ⟨p, 5, none⟩ = some (.slice a2 nz.length c2) ∧ wx.cell? ⟨p, 6, none⟩ = some (.int .i64 N) ∧ Below Z.heap.size Z wx) (by kernel_rfl) (KSH.out _ (Below.refl _ _).drew) (fun hHeld => ?_)
       refine take_at (i := 0) (d := some 24) (v := ?ov0) rfl rfl (by kernel_rfl) (by kernel_rfl) (by kernel_rfl) (fun _ _ _ h => h) (Or.inl ⟨by rfl, ?oy0⟩) (by assumption) ?og0
       case oy0 => (intro z hSz; (try dsimp only at hSz); go_simp; (try with_reducible rfl))
       try simp only [Act.put, List.setIfInBounds_toArray, List.set_cons_zero, List.set_cons_succ]
       refine take_at (i := 1) (d := some 25) (v := ?ov1) rfl rfl (by kernel_rfl) (by kernel_rfl) (by kernel_rfl) (fun _ _ _ h => h) (Or.inl ⟨by rfl, ?oy1⟩) (by assumption) ?og1
       case oy1 => (intro z hSz; (try dsimp only at hSz); go_simp; (try with_reducible rfl))
       try simp only [Act.put, List.setIfInBounds_toArray, List.set_cons_zero, List.set_cons_succ]
       refine take_at (i := 2) (d := some 26) (v := ?ov2) rfl rfl (by kernel_rfl) (by kernel_rfl) (by kernel_rfl) (fun _ _ _ h => h) (Or.inl ⟨by rfl, ?oy2⟩) (by assumption) ?og2
       case oy2 => (intro z hSz; (try dsimp only at hSz); go_simp; (try with_reducible rfl))
       try simp only [Act.put, List.setIfInBounds_toArray, List.set_cons_zero, List.set_cons_succ]
       refine wpAnyH_ready (rs := [3]) (by kernel_rfl) (by simp) ?_
       refine AllReadyH.cons rfl (fun K hK => ?_) AllReadyH.nil
       go_simp
       (go_at_call 41; refine (RE2.out _ (by assumption)).mono ?_; rintro r w3 ⟨a3, c3, rfl, _, hb3'⟩)
       have hk3 := KTH.out _ _ (by assumption) hb3'
       clear hHeld
       refine hK.out _ _ hk3 (fun _ => ?_)
       clear hK K
       try simp only [Act.put, List.setIfInBounds_toArray, List.set_cons_zero, List.set_cons_succ]
       refine take_at (i := 4) (d := some 28) (v := ?ov4) rfl rfl (by kernel_rfl) (by kernel_rfl) (by kernel_rfl) (fun _ _ _ h => h) (Or.inl ⟨by rfl, ?oy4⟩) (by assumption) ?og4
       case oy4 => (intro z hSz; (try dsimp only at hSz); go_simp; (try with_reducible rfl))
       try simp only [Act.put, List.setIfInBounds_toArray, List.set_cons_zero, List.set_cons_succ]
       refine take_at (i := 5) (d := some 29) (v := ?ov5) rfl rfl (by kernel_rfl) (by kernel_rfl) (by kernel_rfl) (fun _ _ _ h => h) (Or.inl ⟨by rfl, ?oy5⟩) (by assumption) ?og5
       case oy5 => (intro z hSz; (try dsimp only at hSz); go_simp; (try with_reducible rfl))
       try simp only [Act.put, List.setIfInBounds_toArray, List.set_cons_zero, List.set_cons_succ]
       refine take_at (i := 6) (d := some 30) (v := ?ov6) rfl rfl (by kernel_rfl) (by kernel_rfl) (by kernel_rfl) (fun _ _ _ h => h) (Or.inl ⟨by rfl, ?oy6⟩) (by assumption) ?og6
       case oy6 => (intro z hSz; (try dsimp only at hSz); go_simp; (try with_reducible rfl))
       try simp only [Act.put, List.setIfInBounds_toArray, List.set_cons_zero, List.set_cons_succ]
       refine take_at (i := 7) (d := some 31) (v := ?ov7) rfl rfl (by kernel_rfl) (by kernel_rfl) (by kernel_rfl) (fun _ _ _ h => h) (Or.inl ⟨by rfl, ?oy7⟩) (by assumption) ?og7
       case oy7 => (intro z hSz; (try dsimp only at hSz); go_simp; (try with_reducible rfl))
       try simp only [Act.put, List.setIfInBounds_toArray, List.set_cons_zero, List.set_cons_succ]
       refine take_at (i := 8) (d := some 32) (v := ?ov8) rfl rfl (by kernel_rfl) (by kernel_rfl) (by kernel_rfl) (fun _ _ _ h => h) (Or.inl ⟨by rfl, ?oy8⟩) (by assumption) ?og8
       case oy8 => (intro z hSz; (try dsimp only at hSz); go_simp; (try with_reducible rfl))
       try simp only [Act.put, List.setIfInBounds_toArray, List.set_cons_zero, List.set_cons_succ]
       refine take_at (i := 9) (d := some 33) (v := ?ov9) rfl rfl (by kernel_rfl) (by kernel_rfl) (by kernel_rfl) (fun _ _ _ h => h) (Or.inl ⟨by rfl, ?oy9⟩) (by assumption) ?og9
       case oy9 => (intro z hSz; (try dsimp only at hSz); go_simp; (try with_reducible rfl))
       try simp only [Act.put, List.setIfInBounds_toArray, List.set_cons_zero, List.set_cons_succ]
       refine take_at (i := 10) (d := some 34) (v := ?ov10) rfl rfl (by kernel_rfl) (by kernel_rfl) (by kernel_rfl) (fun _ _ _ h => h) (Or.inl ⟨by rfl, ?oy10⟩) (by assumption) ?og10
       case oy10 => (intro z hSz; (try dsimp only at hSz); go_simp; (try with_reducible rfl))
       try simp only [Act.put, List.setIfInBounds_toArray, List.set_cons_zero, List.set_cons_succ]
       refine take_at (i := 11) (d := some 35) (v := ?ov11) rfl rfl (by kernel_rfl) (by kernel_rfl) (by kernel_rfl) (fun _ _ _ h => h) (Or.inl ⟨by rfl, ?oy11⟩) (by assumption) ?og11
       case oy11 => (intro z hSz; (try dsimp only at hSz); go_simp; (try with_reducible rfl))
       try simp only [Act.put, List.setIfInBounds_toArray, List.set_cons_zero, List.set_cons_succ]
       refine take_at (i := 12) (d := some 36) (v := ?ov12) rfl rfl (by kernel_rfl) (by kernel_rfl) (by kernel_rfl) (fun _ _ _ h => h) (Or.inl ⟨by rfl, ?oy12⟩) (by assumption) ?og12
       case oy12 => (intro z hSz; (try dsimp only at hSz); go_simp; (try with_reducible rfl))
       try simp only [Act.put, List.setIfInBounds_toArray, List.set_cons_zero, List.set_cons_succ]
       refine take_at (i := 13) (d := some 37) (v := ?ov13) rfl rfl (by kernel_rfl) (by kernel_rfl) (by kernel_rfl) (fun _ _ _ h => h) (Or.inl ⟨by rfl, ?oy13⟩) (by assumption) ?og13
       case oy13 => (intro z hSz; (try dsimp only at hSz); go_simp; (try with_reducible rfl))
       try simp only [Act.put, List.setIfInBounds_toArray, List.set_cons_zero, List.set_cons_succ]
       refine take_at (i := 14) (d := some 38) (v := ?ov14) rfl rfl (by kernel_rfl) (by kernel_rfl) (by kernel_rfl) (fun _ _ _ h => h) (Or.inl ⟨by rfl, ?oy14⟩) (by assumption) ?og14
       case oy14 => (intro z hSz; (try dsimp only at hSz); go_simp; (try with_reducible rfl))
       try simp only [Act.put, List.setIfInBounds_toArray, List.set_cons_zero, List.set_cons_succ]
       refine take_at (i := 15) (d := some 39) (v := ?ov15) rfl rfl (by kernel_rfl) (by kernel_rfl) (by kernel_rfl) (fun _ _ _ h => h) (Or.inl ⟨by rfl, ?oy15⟩) (by assumption) ?og15
       case oy15 => (intro z hSz; (try dsimp only at hSz); go_simp; (try with_reducible rfl))
       try simp only [Act.put, List.setIfInBounds_toArray, List.set_cons_zero, List.set_cons_succ]
       refine take_at (i := 16) (d := some 40) (v := ?ov16) rfl rfl (by kernel_rfl) (by kernel_rfl) (by kernel_rfl) (fun _ _ _ h => h) (Or.inl ⟨by rfl, ?oy16⟩) (by assumption) ?og16
       case oy16 => (intro z hSz; (try dsimp only at hSz); go_simp; (try with_reducible rfl))
       try simp only [Act.put, List.setIfInBounds_toArray, List.set_cons_zero, List.set_cons_succ]
       refine take_at (i := 17) (d := some 41) (v := ?ov17) rfl rfl (by kernel_rfl) (by kernel_rfl) (by kernel_rfl) (fun _ _ _ h => h) (Or.inl ⟨by rfl, ?oy17⟩) (by assumption) ?og17
       case oy17 => (intro z hSz; (try dsimp only at hSz); go_simp; (try with_reducible rfl))
       try simp only [Act.put, List.setIfInBounds_toArray, List.set_cons_zero, List.set_cons_succ]
       refine take_at (i := 18) (d := some 42) (v := ?ov18) rfl rfl (by kernel_rfl) (by kernel_rfl) (by kernel_rfl) (fun _ _ _ h => h) (Or.inl ⟨by rfl, ?oy18⟩) (by assumption) ?og18
       case oy18 => (intro z hSz; (try dsimp only at hSz); go_simp; (try with_reducible rfl))
       try simp only [Act.put, List.setIfInBounds_toArray, List.set_cons_zero, List.set_cons_succ]
       refine take_at (i := 19) (d := some 43) (v := ?ov19) rfl rfl (by kernel_rfl) (by kernel_rfl) (by kernel_rfl) (fun _ _ _ h => h) (Or.inl ⟨by rfl, ?oy19⟩) (by assumption) ?og19
       case oy19 => (intro z hSz; (try dsimp only at hSz); go_simp; (try with_reducible rfl))
       try simp only [Act.put, List.setIfInBounds_toArray, List.set_cons_zero, List.set_cons_succ]
       refine take_at (i := 20) (d := some 44) (v := ?ov20) rfl rfl (by kernel_rfl) (by kernel_rfl) (by kernel_rfl) (fun _ _ _ h => h) (Or.inl ⟨by rfl, ?oy20⟩) (by assumption) ?og20
       case oy20 => (intro z hSz; (try dsimp only at hSz); go_simp; (try with_reducible rfl))
       try simp only [Act.put, List.setIfInBounds_toArray, List.set_cons_zero, List.set_cons_succ]
       refine take_at (i := 21) (d := some 45) (v := ?ov21) rfl rfl (by kernel_rfl) (by kernel_rfl) (by kernel_rfl) (fun _ _ _ h => h) (Or.inl ⟨by rfl, ?oy21⟩) (by assumption) ?og21
       case oy21 => (intro z hSz; (try dsimp only at hSz); go_simp; (try with_reducible rfl))
       try simp only [Act.put, List.setIfInBounds_toArray, List.set_cons_zero, List.set_cons_succ]
       refine take_at (i := 22) (d := some 46) (v := ?ov22) rfl rfl (by kernel_rfl) (by kernel_rfl) (by kernel_rfl) (fun _ _ _ h => h) (Or.inl ⟨by rfl, ?oy22⟩) (by assumption) ?og22
       case oy22 => (intro z hSz; (try dsimp only at hSz); go_simp; (try with_reducible rfl))
       try simp only [Act.put, List.setIfInBounds_toArray, List.set_cons_zero, List.set_cons_succ]
       refine take_at (i := 23) (d := some 47) (v := ?ov23) rfl rfl (by kernel_rfl) (by kernel_rfl) (by kernel_rfl) (fun _ _ _ h => h) (Or.inl ⟨by rfl, ?oy23⟩) (by assumption) ?og23
       case oy23 => (intro z hSz; (try dsimp only at hSz); go_simp; (try with_reducible rfl))
       try simp only [Act.put, List.setIfInBounds_toArray, List.set_cons_zero, List.set_cons_succ]
       refine take_at (i := 26) (d := some 50) (v := ?ov26) rfl rfl (by kernel_rfl) (by kernel_rfl) (by kernel_rfl) (fun _ _ _ h => h) (Or.inl ⟨by rfl, ?oy26⟩) (by assumption) ?og26
       case oy26 => (intro z hSz; (try dsimp only at hSz); go_simp; (try with_reducible rfl))
       try simp only [Act.put, List.setIfInBounds_toArray, List.set_cons_zero, List.set_cons_succ]
       refine take_at (i := 27) (d := some 51) (v := ?ov27) rfl rfl (by kernel_rfl) (by kernel_rfl) (by kernel_rfl) (fun _ _ _ h => h) (Or.inl ⟨by rfl, ?oy27⟩) (by assumption) ?og27
       case oy27 => (intro z hSz; (try dsimp only at hSz); go_simp; (try with_reducible rfl))
       try simp only [Act.put, List.setIfInBounds_toArray, List.set_cons_zero, List.set_cons_succ]
       refine take_at (i := 28) (d := some 52) (v := ?ov28) rfl rfl (by kernel_rfl) (by kernel_rfl) (by kernel_rfl) (fun _ _ _ h => h) (Or.inl ⟨by rfl, ?oy28⟩) (by assumption) ?og28
       case oy28 => (intro z hSz; (try dsimp only at hSz); go_simp; (try with_reducible rfl))
       try simp only [Act.put, List.setIfInBounds_toArray, List.set_cons_zero, List.set_cons_succ]
       refine take_at (i := 29) (d := some 53) (v := ?ov29) rfl rfl (by kernel_rfl) (by kernel_rfl) (by kernel_rfl) (fun _ _ _ h => h) (Or.inl ⟨by rfl, ?oy29⟩) (by assumption) ?og29
       case oy29 => (intro z hSz; (try dsimp only at hSz); go_simp; (try with_reducible rfl))
       try simp only [Act.put, List.setIfInBounds_toArray, List.set_cons_zero, List.set_cons_succ]
       refine wpAnyH_ready (rs := [24]) (by kernel_rfl) (by simp) ?_
       refine AllReadyH.cons rfl (fun K hK => ?_) AllReadyH.nil
       go_simp
       (go_at_call 42; refine (PE.out _ (by assumption)).mono ?_; rintro r w5 ⟨a5, c5, rfl, O5, hb5'⟩)
       have P5 := PW.out _ _ _ _ O5
       have hk5 := KTH.out _ _ (by assumption) hb5'
       clear hk3
       refine hK.out _ _ hk5 (fun _ => ?_)
       clear hK K
       try simp only [Act.put, List.setIfInBounds_toArray, List.set_cons_zero, List.set_cons_succ]
       refine take_at (i := 25) (d := some 49) (v := ?ov25) rfl rfl (by kernel_rfl) (by kernel_rfl) (by kernel_rfl) (fun _ _ _ h => h) (Or.inl ⟨by rfl, ?oy25⟩) (by assumption) ?og25
       case oy25 => (intro z hSz; (try dsimp only at hSz); go_simp; (try with_reducible rfl))
       try simp only [Act.put, List.setIfInBounds_toArray, List.set_cons_zero, List.set_cons_succ]
       refine wpAnyH_ready (rs := [30]) (by kernel_rfl) (by simp) ?_
       refine AllReadyH.cons rfl (fun K hK => ?_) AllReadyH.nil
       go_simp
       (go_at_call 20; refine (LW.out _ _ _ (by assumption) P5).mono ?_; rintro r w6 ⟨rfl, rfl⟩)
       refine hK.out _ _ (by assumption) (fun _ => ?_)
       clear hK K
       try simp only [Act.put, List.setIfInBounds_toArray, List.set_cons_zero, List.set_cons_succ]
       refine take_at (i := 31) (d := some 55) (v := ?ov31) rfl rfl (by kernel_rfl) (by kernel_rfl) (by kernel_rfl) (fun _ _ _ h => h) (Or.inl ⟨by rfl, ?oy31⟩) (by assumption) ?og31
       case oy31 => (intro z hSz; (try dsimp only at hSz); go_simp; (try with_reducible rfl))
       try simp only [Act.put, List.setIfInBounds_toArray, List.set_cons_zero, List.set_cons_succ]
       refine take_at (i := 32) (d := some 56) (v := ?ov32) rfl rfl (by kernel_rfl) (by kernel_rfl) (by kernel_rfl) (fun _ _ _ h => h) (Or.inl ⟨by rfl, ?oy32⟩) (by assumption) ?og32
       case oy32 => (intro z hSz; (try dsimp only at hSz); go_simp; (try with_reducible rfl))
       try simp only [Act.put, List.setIfInBounds_toArray, List.set_cons_zero, List.set_cons_succ]
       refine take_at (i := 33) (d := some 57) (v := ?ov33) rfl rfl (by kernel_rfl) (by kernel_rfl) (by kernel_rfl) (fun _ _ _ h => h) (Or.inl ⟨by rfl, ?oy33⟩) (by assumption) ?og33
       case oy33 => (intro z hSz; (try dsimp only at hSz); go_simp; (try with_reducible rfl))
       try simp only [Act.put, List.setIfInBounds_toArray, List.set_cons_zero, List.set_cons_succ]
       refine take_at (i := 34) (d := some 58) (v := ?ov34) rfl rfl (by kernel_rfl) (by kernel_rfl) (by kernel_rfl) (fun _ _ _ h => h) (Or.inl ⟨by rfl, ?oy34⟩) (by assumption) ?og34
       case oy34 => (intro z hSz; (try dsimp only at hSz); go_simp; (try with_reducible rfl))
       try simp only [Act.put, List.setIfInBounds_toArray, List.set_cons_zero, List.set_cons_succ]
       refine take_at (i := 35) (d := some 59) (v := ?ov35) rfl rfl (by kernel_rfl) (by kernel_rfl) (by kernel_rfl) (fun _ _ _ h => h) (Or.inl ⟨by rfl, ?oy35⟩) (by assumption) ?og35
       case oy35 => (intro z hSz; (try dsimp only at hSz); go_simp; (try with_reducible rfl))
       try simp only [Act.put, List.setIfInBounds_toArray, List.set_cons_zero, List.set_cons_succ]
       refine take_at (i := 36) (d := some 60) (v := ?ov36) rfl rfl (by kernel_rfl) (by kernel_rfl) (by kernel_rfl) (fun _ _ _ h => h) (Or.inl ⟨by rfl, ?oy36⟩) (by assumption) ?og36
       case oy36 => (intro z hSz; (try dsimp only at hSz); go_simp; (try with_reducible rfl))
       try simp only [Act.put, List.setIfInBounds_toArray, List.set_cons_zero, List.set_cons_succ]
       refine take_at (i := 41) (d := some 65) (v := ?ov41) rfl rfl (by kernel_rfl) (by kernel_rfl) (by kernel_rfl) (fun _ _ _ h => h) (Or.inl ⟨by rfl, ?oy41⟩) (by assumption) ?og41
       case oy41 => (intro z hSz; (try dsimp only at hSz); go_simp; (try with_reducible rfl))
       try simp only [Act.put, List.setIfInBounds_toArray, List.set_cons_zero, List.set_cons_succ]
       refine wpAnyH_ready (rs := [37]) (by kernel_rfl) (by simp) ?_
       refine AllReadyH.cons rfl (fun K hK => ?_) AllReadyH.nil
       go_simp
       (go_at_call 44; refine (PI.out _ (by assumption)).mono ?_; rintro r w7 ⟨a7, c7, rfl, O7, hb7'⟩)
       have P7 := QW.out _ _ _ _ O7
       have hk7 := KTH.out _ _ (by assumption) hb7'
       clear hk5
       refine hK.out _ _ hk7 (fun _ => ?_)
       clear hK K
       try simp only [Act.put, List.setIfInBounds_toArray, List.set_cons_zero, List.set_cons_succ]
       refine take_at (i := 38) (d := some 62) (v := ?ov38) rfl rfl (by kernel_rfl) (by kernel_rfl) (by kernel_rfl) (fun _ _ _ h => h) (Or.inl ⟨by rfl, ?oy38⟩) (by assumption) ?og38
       case oy38 => (intro z hSz; (try dsimp only at hSz); go_simp; (try with_reducible rfl))
       try simp only [Act.put, List.setIfInBounds_toArray, List.set_cons_zero, List.set_cons_succ]
       refine wpAnyH_ready (rs := [39]) (by kernel_rfl) (by simp) ?_
       refine AllReadyH.cons rfl (fun K hK => ?_) AllReadyH.nil
       go_simp
       (go_at_call 43; refine (GI.out _ _ _ P7).mono ?_; rintro r w8 ⟨rfl, hb8'⟩)
       have hk8 := KTH.out _ _ (by assumption) hb8'
       clear hk7
       refine hK.out _ _ hk8 (fun _ => ?_)
       clear hK K
       try simp only [Act.put, List.setIfInBounds_toArray, List.set_cons_zero, List.set_cons_succ]
       refine take_at (i := 40) (d := some 64) (v := ?ov40) rfl rfl (by kernel_rfl) (by kernel_rfl) (by kernel_rfl) (fun _ _ _ h => h) (Or.inl ⟨by rfl, ?oy40⟩) (by assumption) ?og40
       case oy40 => (intro z hSz; (try dsimp only at hSz); go_simp; (try with_reducible rfl))
       try simp only [Act.put, List.setIfInBounds_toArray, List.set_cons_zero, List.set_cons_succ]
       refine take_at (i := 42) (d := some 66) (v := ?ov42) rfl rfl (by kernel_rfl) (by kernel_rfl) (by kernel_rfl) (fun _ _ _ h => h) (Or.inl ⟨by rfl, ?oy42⟩) (by assumption) ?og42
       case oy42 => (intro z hSz; (try dsimp only at hSz); go_simp; (try with_reducible rfl))
       try simp only [Act.put, List.setIfInBounds_toArray, List.set_cons_zero, List.set_cons_succ]
       refine take_at (i := 43) (d := some 67) (v := ?ov43) rfl rfl (by kernel_rfl) (by kernel_rfl) (by kernel_rfl) (fun _ _ _ h => h) (Or.inl ⟨by rfl, ?oy43⟩) (by assumption) ?og43
       case oy43 => (intro z hSz; (try dsimp only at hSz); go_simp; (try with_reducible rfl))
       try simp only [Act.put, List.setIfInBounds_toArray, List.set_cons_zero, List.set_cons_succ]
       refine take_at (i := 44) (d := some 68) (v := ?ov44) rfl rfl (by kernel_rfl) (by kernel_rfl) (by kernel_rfl) (fun _ _ _ h => h) (Or.inl ⟨by rfl, ?oy44⟩) (by assumption) ?og44
       case oy44 => (intro z hSz; (try dsimp only at hSz); go_simp; (try with_reducible rfl))
       try simp only [Act.put, List.setIfInBounds_toArray, List.set_cons_zero, List.set_cons_succ]
       refine take_at (i := 45) (d := some 69) (v := ?ov45) rfl rfl (by kernel_rfl) (by kernel_rfl) (by kernel_rfl) (fun _ _ _ h => h) (Or.inl ⟨by rfl, ?oy45⟩) (by assumption) ?og45
       case oy45 => (intro z hSz; (try dsimp only at hSz); go_simp; (try with_reducible rfl))
       try simp only [Act.put, List.setIfInBounds_toArray, List.set_cons_zero, List.set_cons_succ]
       refine wpAnyH_ready (rs := [46]) (by kernel_rfl) (by simp) ?_
       refine AllReadyH.cons rfl (fun K hK => ?_) AllReadyH.nil
       go_simp
       (go_at_call 44; refine (PI.out _ (by assumption)).mono ?_; rintro r w9 ⟨a9, c9, rfl, O9, hb9'⟩)
       have hk9 := KTH.out _ _ (by assumption) hb9'
       clear hk8
       refine hK.out _ _ hk9 (fun _ => ?_)
       clear hK K
       try simp only [Act.put, List.setIfInBounds_toArray, List.set_cons_zero, List.set_cons_succ]
       refine take_at (i := 47) (d := some 71) (v := ?ov47) rfl rfl (by kernel_rfl) (by kernel_rfl) (by kernel_rfl) (fun _ _ _ h => h) (Or.inl ⟨by rfl, ?oy47⟩) (by assumption) ?og47
       case oy47 => (intro z hSz; (try dsimp only at hSz); go_simp; (try with_reducible rfl))
       try simp only [Act.put, List.setIfInBounds_toArray, List.set_cons_zero, List.set_cons_succ]
       refine take_at (i := 48) (d := some 72) (v := ?ov48) rfl rfl (by kernel_rfl) (by kernel_rfl) (by kernel_rfl) (fun _ _ _ h => h) (Or.inl ⟨by rfl, ?oy48⟩) (by assumption) ?og48
       case oy48 => (intro z hSz; (try dsimp only at hSz); go_simp; (try with_reducible rfl))
       try simp only [Act.put, List.setIfInBounds_toArray, List.set_cons_zero, List.set_cons_succ]
       refine take_at (i := 49) (d := some 73) (v := ?ov49) rfl rfl (by kernel_rfl) (by kernel_rfl) (by kernel_rfl) (fun _ _ _ h => h) (Or.inl ⟨by rfl, ?oy49⟩) (by assumption) ?og49
       case oy49 => (intro z hSz; (try dsimp only at hSz); go_simp; (try with_reducible rfl))
       try simp only [Act.put, List.setIfInBounds_toArray, List.set_cons_zero, List.set_cons_succ]
       refine take_at (i := 50) (d := some 74) (v := ?ov50) rfl rfl (by kernel_rfl) (by kernel_rfl) (by kernel_rfl) (fun _ _ _ h => h) (Or.inl ⟨by rfl, ?oy50⟩) (by assumption) ?og50
       case oy50 => (intro z hSz; (try dsimp only at hSz); go_simp; (try with_reducible rfl))
       try simp only [Act.put, List.setIfInBounds_toArray, List.set_cons_zero, List.set_cons_succ]
       refine take_at (i := 51) (d := some 75) (v := ?ov51) rfl rfl (by kernel_rfl) (by kernel_rfl) (by kernel_rfl) (fun _ _ _ h => h) (Or.inl ⟨by rfl, ?oy51⟩) (by assumption) ?og51
       case oy51 => (intro z hSz; (try dsimp only at hSz); go_simp; (try with_reducible rfl))
       try simp only [Act.put, List.setIfInBounds_toArray, List.set_cons_zero, List.set_cons_succ]
       refine take_at (i := 52) (d := some 76) (v := ?ov52) rfl rfl (by kernel_rfl) (by kernel_rfl) (by kernel_rfl) (fun _ _ _ h => h) (Or.inl ⟨by rfl, ?oy52⟩) (by assumption) ?og52
       case oy52 => (intro z hSz; (try dsimp only at hSz); go_simp; (try with_reducible rfl))
       try simp only [Act.put, List.setIfInBounds_toArray, List.set_cons_zero, List.set_cons_succ]
       refine take_at (i := 53) (d := some 77) (v := ?ov53) rfl rfl (by kernel_rfl) (by kernel_rfl) (by kernel_rfl) (fun _ _ _ h => h) (Or.inl ⟨by rfl, ?oy53⟩) (by assumption) ?og53
       case oy53 => (intro z hSz; (try dsimp only at hSz); go_simp; (try with_reducible rfl))
       try simp only [Act.put, List.setIfInBounds_toArray, List.set_cons_zero, List.set_cons_succ]
       refine take_at (i := 56) (d := some 80) (v := ?ov56) rfl rfl (by kernel_rfl) (by kernel_rfl) (by kernel_rfl) (fun _ _ _ h => h) (Or.inl ⟨by rfl, ?oy56⟩) (by assumption) ?og56
       case oy56 => (intro z hSz; (try dsimp only at hSz); go_simp; (try with_reducible rfl))
       try simp only [Act.put, List.setIfInBounds_toArray, List.set_cons_zero, List.set_cons_succ]
       refine take_at (i := 57) (d := some 81) (v := ?ov57) rfl rfl (by kernel_rfl) (by kernel_rfl) (by kernel_rfl) (fun _ _ _ h => h) (Or.inl ⟨by rfl, ?oy57⟩) (by assumption) ?og57
       case oy57 => (intro z hSz; (try dsimp only at hSz); go_simp; (try with_reducible rfl))
       try simp only [Act.put, List.setIfInBounds_toArray, List.set_cons_zero, List.set_cons_succ]
       refine wpAnyH_ready (rs := [54]) (by kernel_rfl) (by simp) ?_
       refine AllReadyH.cons rfl (fun K hK => ?_) AllReadyH.nil
       go_simp
       (go_at_call 43; refine (GD.out _ (by assumption)).mono ?_; rintro r w10 ⟨rfl, hb10'⟩)
       have hk10 := KTH.out _ _ (by assumption) hb10'
       clear hk9
       refine hK.out _ _ hk10 (fun _ => ?_)
       clear hK K
       try simp only [Act.put, List.setIfInBounds_toArray, List.set_cons_zero, List.set_cons_succ]
       refine take_at (i := 55) (d := some 79) (v := ?ov55) rfl rfl (by kernel_rfl) (by kernel_rfl) (by kernel_rfl) (fun _ _ _ h => h) (Or.inl ⟨by rfl, ?oy55⟩) (by assumption) ?og55
       case oy55 => (intro z hSz; (try dsimp only at hSz); go_simp; (try with_reducible rfl))
       try simp only [Act.put, List.setIfInBounds_toArray, List.set_cons_zero, List.set_cons_succ]
       refine wpAnyH_ready (rs := [58]) (by kernel_rfl) (by simp) ?_
       refine AllReadyH.cons rfl (fun K hK => ?_) AllReadyH.nil
       go_simp
       (go_at_call 45; refine (SD.out _ (by assumption)).mono ?_; rintro r w11 ⟨rfl, hb11'⟩)
       have hk11 := KTH.out _ _ (by assumption) hb11'
       clear hk10
       refine hK.out _ _ hk11 (fun _ => ?_)
       clear hK K
       try simp only [Act.put, List.setIfInBounds_toArray, List.set_cons_zero, List.set_cons_succ]
       refine take_at (i := 59) (d := some 83) (v := ?ov59) rfl rfl (by kernel_rfl) (by kernel_rfl) (by kernel_rfl) (fun _ _ _ h => h) (Or.inl ⟨by rfl, ?oy59⟩) (by assumption) ?og59
       case oy59 => (intro z hSz; (try dsimp only at hSz); go_simp; (try with_reducible rfl))
       try simp only [Act.put, List.setIfInBounds_toArray, List.set_cons_zero, List.set_cons_succ]
       refine take_at (i := 60) (d := some 84) (v := ?ov60) rfl rfl (by kernel_rfl) (by kernel_rfl) (by kernel_rfl) (fun _ _ _ h => h) (Or.inl ⟨by rfl, ?oy60⟩) (by assumption) ?og60
       case oy60 => (intro z hSz; (try dsimp only at hSz); go_simp; (try with_reducible rfl))
       try simp only [Act.put, List.setIfInBounds_toArray, List.set_cons_zero, List.set_cons_succ]
       refine take_at (i := 61) (d := some 85) (v := ?ov61) rfl rfl (by kernel_rfl) (by kernel_rfl) (by kernel_rfl) (fun _ _ _ h => h) (Or.inl ⟨by rfl, ?oy61⟩) (by assumption) ?og61
       case oy61 => (intro z hSz; (try dsimp only at hSz); go_simp; (try with_reducible rfl))
       try simp only [Act.put, List.setIfInBounds_toArray, List.set_cons_zero, List.set_cons_succ]
       refine take_at (i := 62) (d := some 86) (v := ?ov62) rfl rfl (by kernel_rfl) (by kernel_rfl) (by kernel_rfl) (fun _ _ _ h => h) (Or.inl ⟨by rfl, ?oy62⟩) (by assumption) ?og62
       case oy62 => (intro z hSz; (try dsimp only at hSz); go_simp; (try with_reducible rfl))
       try simp only [Act.put, List.setIfInBounds_toArray, List.set_cons_zero, List.set_cons_succ]
       refine take_at (i := 63) (d := some 87) (v := ?ov63) rfl rfl (by kernel_rfl) (by kernel_rfl) (by kernel_rfl) (fun _ _ _ h => h) (Or.inl ⟨by rfl, ?oy63⟩) (by assumption) ?og63
       case oy63 => (intro z hSz; (try dsimp only at hSz); go_simp; (try with_reducible rfl))
       try simp only [Act.put, List.setIfInBounds_toArray, List.set_cons_zero, List.set_cons_succ]
       refine take_at (i := 64) (d := some 88) (v := ?ov64) rfl rfl (by kernel_rfl) (by kernel_rfl) (by kernel_rfl) (fun _ _ _ h => h) (Or.inl ⟨by rfl, ?oy64⟩) (by assumption) ?og64
       case oy64 => (intro z hSz; (try dsimp only at hSz); go_simp; (try with_reducible rfl))
       try simp only [Act.put, List.setIfInBounds_toArray, List.set_cons_zero, List.set_cons_succ]
       refine take_at (i := 67) (d := some 91) (v := ?ov67) rfl rfl (by kernel_rfl) (by kernel_rfl) (by kernel_rfl) (fun _ _ _ h => h) (Or.inl ⟨by rfl, ?oy67⟩) (by assumption) ?og67
       case oy67 => (intro z hSz; (try dsimp only at hSz); go_simp; (try with_reducible rfl))
       try simp only [Act.put, List.setIfInBounds_toArray, List.set_cons_zero, List.set_cons_succ]
       refine take_at (i := 68) (d := some 92) (v := ?ov68) rfl rfl (by kernel_rfl) (by kernel_rfl) (by kernel_rfl) (fun _ _ _ h => h) (Or.inl ⟨by rfl, ?oy68⟩) (by assumption) ?og68
       case oy68 => (intro z hSz; (try dsimp only at hSz); go_simp; (try with_reducible rfl))
       try simp only [Act.put, List.setIfInBounds_toArray, List.set_cons_zero, List.set_cons_succ]
       refine wpAnyH_ready (rs := [65]) (by kernel_rfl) (by simp) ?_
       refine AllReadyH.cons rfl (fun K hK => ?_) AllReadyH.nil
       go_simp
       (go_at_call 43; refine (GD.out _ (by assumption)).mono ?_; rintro r w12 ⟨rfl, hb12'⟩)
       have hk12 := KTH.out _ _ (by assumption) hb12'
       clear hk11
       refine hK.out _ _ hk12 (fun _ => ?_)
       clear hK K
       try simp only [Act.put, List.setIfInBounds_toArray, List.set_cons_zero, List.set_cons_succ]
       refine take_at (i := 66) (d := some 90) (v := ?ov66) rfl rfl (by kernel_rfl) (by kernel_rfl) (by kernel_rfl) (fun _ _ _ h => h) (Or.inl ⟨by rfl, ?oy66⟩) (by assumption) ?og66
       case oy66 => (intro z hSz; (try dsimp only at hSz); go_simp; (try with_reducible rfl))
       try simp only [Act.put, List.setIfInBounds_toArray, List.set_cons_zero, List.set_cons_succ]
       refine wpAnyH_ready (rs := [69]) (by kernel_rfl) (by simp) ?_
       refine AllReadyH.cons rfl (fun K hK => ?_) AllReadyH.nil
       go_simp
       (go_at_call 45; refine (SD.out _ (by assumption)).mono ?_; rintro r w13 ⟨rfl, hb13'⟩)
       have hk13 := KTH.out _ _ (by assumption) hb13'
       clear hk12
       refine hK.out _ _ hk13 (fun _ => ?_)
       clear hK K
       try simp only [Act.put, List.setIfInBounds_toArray, List.set_cons_zero, List.set_cons_succ]
       refine take_at (i := 70) (d := some 94) (v := ?ov70) rfl rfl (by kernel_rfl) (by kernel_rfl) (by kernel_rfl) (fun _ _ _ h => h) (Or.inl ⟨by rfl, ?oy70⟩) (by assumption) ?og70
       case oy70 => (intro z hSz; (try dsimp only at hSz); go_simp; (try with_reducible rfl))
       try simp only [Act.put, List.setIfInBounds_toArray, List.set_cons_zero, List.set_cons_succ]
       refine take_at (i := 71) (d := some 95) (v := ?ov71) rfl rfl (by kernel_rfl) (by kernel_rfl) (by kernel_rfl) (fun _ _ _ h => h) (Or.inl ⟨by rfl, ?oy71⟩) (by assumption) ?og71
       case oy71 => (intro z hSz; (try dsimp only at hSz); go_simp; (try with_reducible rfl))
       try simp only [Act.put, List.setIfInBounds_toArray, List.set_cons_zero, List.set_cons_succ]
       refine take_at (i := 72) (d := some 96) (v := ?ov72) rfl rfl (by kernel_rfl) (by kernel_rfl) (by kernel_rfl) (fun _ _ _ h => h) (Or.inl ⟨by rfl, ?oy72⟩) (by assumption) ?og72
       case oy72 => (intro z hSz; (try dsimp only at hSz); go_simp; (try with_reducible rfl))
       try simp only [Act.put, List.setIfInBounds_toArray, List.set_cons_zero, List.set_cons_succ]
       refine wpAnyH_done (by kernel_rfl) ?_ _
       refine NoPanic.normal ?_
       go_wp2_with fail
       go_meet
       exact ⟨rfl, hk13.2.2.2.2.2.2.2⟩
     · subst h5
       refine wp_region_noPanic ?_
       refine wp_region_held_drew (S := fun wx => wx.cell? ⟨p, 0, none⟩ = some (.int .i64 5) ∧ wx.cell? ⟨p, 1, none⟩ = some (.int .i64 es) ∧ wx.cell? ⟨p, 2, none⟩ = some (.int .i64 ev) ∧ wx.cell? ⟨p, 3, none⟩ = some (.int .i64 ek) ∧ wx.cell? ⟨p, 4, none⟩ = some (.int .i64 ex) ∧ wx.cell? ⟨p, 5, none⟩ = some (.slice a2 nz.length c2) ∧ wx.cell? ⟨p, 6, none⟩ = some (.int .i64 us) ∧ Below Z.heap.size Z wx) (by kernel_rfl) (KSH.out _ (Below.refl _ _).drew) (fun hHeld => ?_)
       refine take_at (i := 0) (d := some 24) (v := ?bv0) rfl rfl (by kernel_rfl) (by kernel_rfl) (by kernel_rfl) (fun _ _ _ h => h) (Or.inl ⟨by rfl, ?by0⟩) (by assumption) ?bg0
       case by0 => (intro z hSz; (try dsimp only at hSz); go_simp; (try with_reducible rfl))
       try simp only [Act.put, List.setIfInBounds_toArray, List.set_cons_zero, List.set_cons_succ]
       refine take_at (i := 1) (d := some 25) (v := ?bv1) rfl rfl (by kernel_rfl) (by kernel_rfl) (by kernel_rfl) (fun _ _ _ h => h) (Or.inl ⟨by rfl, ?by1⟩) (by assumption) ?bg1
       case by1 => (intro z hSz; (try dsimp only at hSz); go_simp; (try with_reducible rfl))
       try simp only [Act.put, List.setIfInBounds_toArray, List.set_cons_zero, List.set_cons_succ]
       refine take_at (i := 2) (d := some 26) (v := ?bv2) rfl rfl (by kernel_rfl) (by kernel_rfl) (by kernel_rfl) (fun _ _ _ h => h) (Or.inl ⟨by rfl, ?by2⟩) (by assumption) ?bg2
       case by2 => (intro z hSz; (try dsimp only at hSz); go_simp; (try with_reducible rfl))
       try simp only [Act.put, List.setIfInBounds_toArray, List.set_cons_zero, List.set_cons_succ]
       refine wpAnyH_ready (rs := [3]) (by kernel_rfl) (by simp) ?_
       refine AllReadyH.cons rfl (fun K hK => ?_) AllReadyH.nil
       go_simp
       (go_at_call 41; refine (RE2.out _ (by assumption)).mono ?_; rintro r w3 ⟨a3, c3, rfl, _, hb3'⟩)
       have hk3 := KTH.out _ _ (by assumption) hb3'
       clear hHeld
       refine hK.out _ _ hk3 (fun _ => ?_)
       clear hK K
       try simp only [Act.put, List.setIfInBounds_toArray, List.set_cons_zero, List.set_cons_succ]
       refine take_at (i := 4) (d := some 28) (v := ?bv4) rfl rfl (by kernel_rfl) (by kernel_rfl) (by kernel_rfl) (fun _ _ _ h => h) (Or.inl ⟨by rfl, ?by4⟩) (by assumption) ?bg4
       case by4 => (intro z hSz; (try dsimp only at hSz); go_simp; (try with_reducible rfl))
       try simp only [Act.put, List.setIfInBounds_toArray, List.set_cons_zero, List.set_cons_succ]
       refine take_at (i := 5) (d := some 29) (v := ?bv5) rfl rfl (by kernel_rfl) (by kernel_rfl) (by kernel_rfl) (fun _ _ _ h => h) (Or.inl ⟨by rfl, ?by5⟩) (by assumption) ?bg5
       case by5 => (intro z hSz; (try dsimp only at hSz); go_simp; (try with_reducible rfl))
       try simp only [Act.put, List.setIfInBounds_toArray, List.set_cons_zero, List.set_cons_succ]
       refine take_at (i := 6) (d := some 30) (v := ?bv6) rfl rfl (by kernel_rfl) (by kernel_rfl) (by kernel_rfl) (fun _ _ _ h => h) (Or.inl ⟨by rfl, ?by6⟩) (by assumption) ?bg6
       case by6 => (intro z hSz; (try dsimp only at hSz); go_simp; (try with_reducible rfl))
       try simp only [Act.put, List.setIfInBounds_toArray, List.set_cons_zero, List.set_cons_succ]
       refine take_at (i := 7) (d := some 31) (v := ?bv7) rfl rfl (by kernel_rfl) (by kernel_rfl) (by kernel_rfl) (fun _ _ _ h => h) (Or.inl ⟨by rfl, ?by7⟩) (by assumption) ?bg7
       case by7 => (intro z hSz; (try dsimp only at hSz); go_simp; (try with_reducible rfl))
       try simp only [Act.put, List.setIfInBounds_toArray, List.set_cons_zero, List.set_cons_succ]
       refine take_at (i := 8) (d := some 32) (v := ?bv8) rfl rfl (by kernel_rfl) (by kernel_rfl) (by kernel_rfl) (fun _ _ _ h => h) (Or.inl ⟨by rfl, ?by8⟩) (by assumption) ?bg8
       case by8 => (intro z hSz; (try dsimp only at hSz); go_simp; (try with_reducible rfl))
       try simp only [Act.put, List.setIfInBounds_toArray, List.set_cons_zero, List.set_cons_succ]
       refine take_at (i := 9) (d := some 33) (v := ?bv9) rfl rfl (by kernel_rfl) (by kernel_rfl) (by kernel_rfl) (fun _ _ _ h => h) (Or.inl ⟨by rfl, ?by9⟩) (by assumption) ?bg9
       case by9 => (intro z hSz; (try dsimp only at hSz); go_simp; (try with_reducible rfl))
       try simp only [Act.put, List.setIfInBounds_toArray, List.set_cons_zero, List.set_cons_succ]
       refine take_at (i := 10) (d := some 34) (v := ?bv10) rfl rfl (by kernel_rfl) (by kernel_rfl) (by kernel_rfl) (fun _ _ _ h => h) (Or.inl ⟨by rfl, ?by10⟩) (by assumption) ?bg10
       case by10 => (intro z hSz; (try dsimp only at hSz); go_simp; (try with_reducible rfl))
       try simp only [Act.put, List.setIfInBounds_toArray, List.set_cons_zero, List.set_cons_succ]
       refine take_at (i := 11) (d := some 35) (v := undef) rfl rfl (by kernel_rfl) (by kernel_rfl) (by kernel_rfl) (fun _ _ _ h => h) (Or.inr ⟨by rfl, rfl⟩) (by assumption) ?_
       try simp only [Act.put, List.setIfInBounds_toArray, List.set_cons_zero, List.set_cons_succ]
       refine take_at (i := 12) (d := some 36) (v := undef) rfl rfl (by kernel_rfl) (by kernel_rfl) (by kernel_rfl) (fun _ _ _ h => h) (Or.inr ⟨by rfl, rfl⟩) (by assumption) ?_
       try simp only [Act.put, List.setIfInBounds_toArray, List.set_cons_zero, List.set_cons_succ]
       refine take_at (i := 13) (d := some 37) (v := undef) rfl rfl (by kernel_rfl) (by kernel_rfl) (by kernel_rfl) (fun _ _ _ h => h) (Or.inr ⟨by rfl, rfl⟩) (by assumption) ?_
       try simp only [Act.put, List.setIfInBounds_toArray, List.set_cons_zero, List.set_cons_succ]
       refine take_at (i := 14) (d := some 38) (v := undef) rfl rfl (by kernel_rfl) (by kernel_rfl) (by kernel_rfl) (fun _ _ _ h => h) (Or.inr ⟨by rfl, rfl⟩) (by assumption) ?_
       try simp only [Act.put, List.setIfInBounds_toArray, List.set_cons_zero, List.set_cons_succ]
       refine take_at (i := 15) (d := some 39) (v := undef) rfl rfl (by kernel_rfl) (by kernel_rfl) (by kernel_rfl) (fun _ _ _ h => h) (Or.inr ⟨by rfl, rfl⟩) (by assumption) ?_
       try simp only [Act.put, List.setIfInBounds_toArray, List.set_cons_zero, List.set_cons_succ]
       refine take_at (i := 16) (d := some 40) (v := undef) rfl rfl (by kernel_rfl) (by kernel_rfl) (by kernel_rfl) (fun _ _ _ h => h) (Or.inr ⟨by rfl, rfl⟩) (by assumption) ?_
       try simp only [Act.put, List.setIfInBounds_toArray, List.set_cons_zero, List.set_cons_succ]
       refine take_at (i := 17) (d := some 41) (v := undef) rfl rfl (by kernel_rfl) (by kernel_rfl) (by kernel_rfl) (fun _ _ _ h => h) (Or.inr ⟨by rfl, rfl⟩) (by assumption) ?_
       try simp only [Act.put, List.setIfInBounds_toArray, List.set_cons_zero, List.set_cons_succ]
       refine take_at (i := 18) (d := some 42) (v := undef) rfl rfl (by kernel_rfl) (by kernel_rfl) (by kernel_rfl) (fun _ _ _ h => h) (Or.inr ⟨by rfl, rfl⟩) (by assumption) ?_
       try simp only [Act.put, List.setIfInBounds_toArray, List.set_cons_zero, List.set_cons_succ]
       refine take_at (i := 19) (d := some 43) (v := undef) rfl rfl (by kernel_rfl) (by kernel_rfl) (by kernel_rfl) (fun _ _ _ h => h) (Or.inr ⟨by rfl, rfl⟩) (by assumption) ?_
       try simp only [Act.put, List.setIfInBounds_toArray, List.set_cons_zero, List.set_cons_succ]
       refine take_at (i := 20) (d := some 44) (v := undef) rfl rfl (by kernel_rfl) (by kernel_rfl) (by kernel_rfl) (fun _ _ _ h => h) (Or.inr ⟨by rfl, rfl⟩) (by assumption) ?_
       try simp only [Act.put, List.setIfInBounds_toArray, List.set_cons_zero, List.set_cons_succ]
       refine take_at (i := 21) (d := some 45) (v := undef) rfl rfl (by kernel_rfl) (by kernel_rfl) (by kernel_rfl) (fun _ _ _ h => h) (Or.inr ⟨by rfl, rfl⟩) (by assumption) ?_
       try simp only [Act.put, List.setIfInBounds_toArray, List.set_cons_zero, List.set_cons_succ]
       refine take_at (i := 22) (d := some 46) (v := undef) rfl rfl (by kernel_rfl) (by kernel_rfl) (by kernel_rfl) (fun _ _ _ h => h) (Or.inr ⟨by rfl, rfl⟩) (by assumption) ?_
       try simp only [Act.put, List.setIfInBounds_toArray, List.set_cons_zero, List.set_cons_succ]
       refine take_at (i := 23) (d := some 47) (v := undef) rfl rfl (by kernel_rfl) (by kernel_rfl) (by kernel_rfl) (fun _ _ _ h => h) (Or.inr ⟨by rfl, rfl⟩) (by assumption) ?_
       try simp only [Act.put, List.setIfInBounds_toArray, List.set_cons_zero, List.set_cons_succ]
       refine take_at (i := 26) (d := some 50) (v := undef) rfl rfl (by kernel_rfl) (by kernel_rfl) (by kernel_rfl) (fun _ _ _ h => h) (Or.inr ⟨by rfl, rfl⟩) (by assumption) ?_
       try simp only [Act.put, List.setIfInBounds_toArray, List.set_cons_zero, List.set_cons_succ]
       refine take_at (i := 27) (d := some 51) (v := undef) rfl rfl (by kernel_rfl) (by kernel_rfl) (by kernel_rfl) (fun _ _ _ h => h) (Or.inr ⟨by rfl, rfl⟩) (by assumption) ?_
       try simp only [Act.put, List.setIfInBounds_toArray, List.set_cons_zero, List.set_cons_succ]
       refine take_at (i := 28) (d := some 52) (v := undef) rfl rfl (by kernel_rfl) (by kernel_rfl) (by kernel_rfl) (fun _ _ _ h => h) (Or.inr ⟨by rfl, rfl⟩) (by assumption) ?_
       try simp only [Act.put, List.setIfInBounds_toArray, List.set_cons_zero, List.set_cons_succ]
       refine take_at (i := 29) (d := some 53) (v := undef) rfl rfl (by kernel_rfl) (by kernel_rfl) (by kernel_rfl) (fun _ _ _ h => h) (Or.inr ⟨by rfl, rfl⟩) (by assumption) ?_
       try simp only [Act.put, List.setIfInBounds_toArray, List.set_cons_zero, List.set_cons_succ]
       refine take_at (i := 24) (d := some 48) (v := undef) rfl rfl (by kernel_rfl) (by kernel_rfl) (by kernel_rfl) (fun _ _ _ h => h) (Or.inr ⟨by rfl, rfl⟩) (by assumption) ?_
       try simp only [Act.put, List.setIfInBounds_toArray, List.set_cons_zero, List.set_cons_succ]
       refine take_at (i := 25) (d := some 49) (v := undef) rfl rfl (by kernel_rfl) (by kernel_rfl) (by kernel_rfl) (fun _ _ _ h => h) (Or.inr ⟨by rfl, rfl⟩) (by assumption) ?_
       try simp only [Act.put, List.setIfInBounds_toArray, List.set_cons_zero, List.set_cons_succ]
       refine take_at (i := 30) (d := some 54) (v := undef) rfl rfl (by kernel_rfl) (by kernel_rfl) (by kernel_rfl) (fun _ _ _ h => h) (Or.inr ⟨by rfl, rfl⟩) (by assumption) ?_
       try simp only [Act.put, List.setIfInBounds_toArray, List.set_cons_zero, List.set_cons_succ]
       refine take_at (i := 31) (d := some 55) (v := undef) rfl rfl (by kernel_rfl) (by kernel_rfl) (by kernel_rfl) (fun _ _ _ h => h) (Or.inr ⟨by rfl, rfl⟩) (by assumption) ?_
       try simp only [Act.put, List.setIfInBounds_toArray, List.set_cons_zero, List.set_cons_succ]
       refine take_at (i := 32) (d := some 56) (v := undef) rfl rfl (by kernel_rfl) (by kernel_rfl) (by kernel_rfl) (fun _ _ _ h => h) (Or.inr ⟨by rfl, rfl⟩) (by assumption) ?_
       try simp only [Act.put, List.setIfInBounds_toArray, List.set_cons_zero, List.set_cons_succ]
       refine take_at (i := 33) (d := some 57) (v := ?bv33) rfl rfl (by kernel_rfl) (by kernel_rfl) (by kernel_rfl) (fun _ _ _ h => h) (Or.inl ⟨by rfl, ?by33⟩) (by assumption) ?bg33
       case by33 => (intro z hSz; (try dsimp only at hSz); go_simp; (try with_reducible rfl))
       try simp only [Act.put, List.setIfInBounds_toArray, List.set_cons_zero, List.set_cons_succ]
       refine take_at (i := 34) (d := some 58) (v := ?bv34) rfl rfl (by kernel_rfl) (by kernel_rfl) (by kernel_rfl) (fun _ _ _ h => h) (Or.inl ⟨by rfl, ?by34⟩) (by assumption) ?bg34
       case by34 => (intro z hSz; (try dsimp only at hSz); go_simp; (try with_reducible rfl))
       try simp only [Act.put, List.setIfInBounds_toArray, List.set_cons_zero, List.set_cons_succ]
       refine take_at (i := 35) (d := some 59) (v := ?bv35) rfl rfl (by kernel_rfl) (by kernel_rfl) (by kernel_rfl) (fun _ _ _ h => h) (Or.inl ⟨by rfl, ?by35⟩) (by assumption) ?bg35
       case by35 => (intro z hSz; (try dsimp only at hSz); go_simp; (try with_reducible rfl))
       try simp only [Act.put, List.setIfInBounds_toArray, List.set_cons_zero, List.set_cons_succ]
       refine take_at (i := 36) (d := some 60) (v := ?bv36) rfl rfl (by kernel_rfl) (by kernel_rfl) (by kernel_rfl) (fun _ _ _ h => h) (Or.inl ⟨by rfl, ?by36⟩) (by assumption) ?bg36
       case by36 => (intro z hSz; (try dsimp only at hSz); go_simp; (try with_reducible rfl))
       try simp only [Act.put, List.setIfInBounds_toArray, List.set_cons_zero, List.set_cons_succ]
       refine take_at (i := 41) (d := some 65) (v := ?bv41) rfl rfl (by kernel_rfl) (by kernel_rfl) (by kernel_rfl) (fun _ _ _ h => h) (Or.inl ⟨by rfl, ?by41⟩) (by assumption) ?bg41
       case by41 => (intro z hSz; (try dsimp only at hSz); go_simp; (try with_reducible rfl))
       try simp only [Act.put, List.setIfInBounds_toArray, List.set_cons_zero, List.set_cons_succ]
       refine wpAnyH_ready (rs := [37]) (by kernel_rfl) (by simp) ?_
       refine AllReadyH.cons rfl (fun K hK => ?_) AllReadyH.nil
       go_simp
       (go_at_call 44; refine (PI.out _ (by assumption)).mono ?_; rintro r w7 ⟨a7, c7, rfl, O7, hb7'⟩)
       have P7 := QW.out _ _ _ _ O7
       have hk7 := KTH.out _ _ (by assumption) hb7'
       clear hk3
       refine hK.out _ _ hk7 (fun _ => ?_)
       clear hK K
       try simp only [Act.put, List.setIfInBounds_toArray, List.set_cons_zero, List.set_cons_succ]
       refine take_at (i := 38) (d := some 62) (v := ?bv38) rfl rfl (by kernel_rfl) (by kernel_rfl) (by kernel_rfl) (fun _ _ _ h => h) (Or.inl ⟨by rfl, ?by38⟩) (by assumption) ?bg38
       case by38 => (intro z hSz; (try dsimp only at hSz); go_simp; (try with_reducible rfl))
       try simp only [Act.put, List.setIfInBounds_toArray, List.set_cons_zero, List.set_cons_succ]
       refine wpAnyH_ready (rs := [39]) (by kernel_rfl) (by simp) ?_
       refine AllReadyH.cons rfl (fun K hK => ?_) AllReadyH.nil
       go_simp
       (go_at_call 43; refine (GI.out _ _ _ P7).mono ?_; rintro r w8 ⟨rfl, hb8'⟩)
       have hk8 := KTH.out _ _ (by assumption) hb8'
       clear hk7
       refine hK.out _ _ hk8 (fun _ => ?_)
       clear hK K
       try simp only [Act.put, List.setIfInBounds_toArray, List.set_cons_zero, List.set_cons_succ]
       refine take_at (i := 40) (d := some 64) (v := ?bv40) rfl rfl (by kernel_rfl) (by kernel_rfl) (by kernel_rfl) (fun _ _ _ h => h) (Or.inl ⟨by rfl, ?by40⟩) (by assumption) ?bg40
       case by40 => (intro z hSz; (try dsimp only at hSz); go_simp; (try with_reducible rfl))
       try simp only [Act.put, List.setIfInBounds_toArray, List.set_cons_zero, List.set_cons_succ]
       refine take_at (i := 42) (d := some 66) (v := ?bv42) rfl rfl (by kernel_rfl) (by kernel_rfl) (by kernel_rfl) (fun _ _ _ h => h) (Or.inl ⟨by rfl, ?by42⟩) (by assumption) ?bg42
       case by42 => (intro z hSz; (try dsimp only at hSz); go_simp; (try with_reducible rfl))
       try simp only [Act.put, List.setIfInBounds_toArray, List.set_cons_zero, List.set_cons_succ]
       refine take_at (i := 43) (d := some 67) (v := ?bv43) rfl rfl (by kernel_rfl) (by kernel_rfl) (by kernel_rfl) (fun _ _ _ h => h) (Or.inl ⟨by rfl, ?by43⟩) (by assumption) ?bg43
       case by43 => (intro z hSz; (try dsimp only at hSz); go_simp; (try with_reducible rfl))
       try simp only [Act.put, List.setIfInBounds_toArray, List.set_cons_zero, List.set_cons_succ]
       refine take_at (i := 44) (d := some 68) (v := ?bv44) rfl rfl (by kernel_rfl) (by kernel_rfl) (by kernel_rfl) (fun _ _ _ h => h) (Or.inl ⟨by rfl, ?by44⟩) (by assumption) ?bg44
       case by44 => (intro z hSz; (try dsimp only at hSz); go_simp; (try with_reducible rfl))
       try simp only [Act.put, List.setIfInBounds_toArray, List.set_cons_zero, List.set_cons_succ]
       refine take_at (i := 45) (d := some 69) (v := ?bv45) rfl rfl (by kernel_rfl) (by kernel_rfl) (by kernel_rfl) (fun _ _ _ h => h) (Or.inl ⟨by rfl, ?by45⟩) (by assumption) ?bg45
       case by45 => (intro z hSz; (try dsimp only at hSz); go_simp; (try with_reducible rfl))
       try simp only [Act.put, List.setIfInBounds_toArray, List.set_cons_zero, List.set_cons_succ]
       refine wpAnyH_ready (rs := [46]) (by kernel_rfl) (by simp) ?_
       refine AllReadyH.cons rfl (fun K hK => ?_) AllReadyH.nil
       go_simp
       (go_at_call 44; refine (PI.out _ (by assumption)).mono ?_; rintro r w9 ⟨a9, c9, rfl, O9, hb9'⟩)
       have hk9 := KTH.out _ _ (by assumption) hb9'
       clear hk8
       refine hK.out _ _ hk9 (fun _ => ?_)
       clear hK K
       try simp only [Act.put, List.setIfInBounds_toArray, List.set_cons_zero, List.set_cons_succ]
       refine take_at (i := 47) (d := some 71) (v := ?bv47) rfl rfl (by kernel_rfl) (by kernel_rfl) (by kernel_rfl) (fun _ _ _ h => h) (Or.inl ⟨by rfl, ?by47⟩) (by assumption) ?bg47
       case by47 => (intro z hSz; (try dsimp only at hSz); go_simp; (try with_reducible rfl))
       try simp only [Act.put, List.setIfInBounds_toArray, List.set_cons_zero, List.set_cons_succ]
       refine take_at (i := 48) (d := some 72) (v := ?bv48) rfl rfl (by kernel_rfl) (by kernel_rfl) (by kernel_rfl) (fun _ _ _ h => h) (Or.inl ⟨by rfl, ?by48⟩) (by assumption) ?bg48
       case by48 => (intro z hSz; (try dsimp only at hSz); go_simp; (try with_reducible rfl))
       try simp only [Act.put, List.setIfInBounds_toArray, List.set_cons_zero, List.set_cons_succ]
       refine take_at (i := 49) (d := some 73) (v := ?bv49) rfl rfl (by kernel_rfl) (by kernel_rfl) (by kernel_rfl) (fun _ _ _ h => h) (Or.inl ⟨by rfl, ?by49⟩) (by assumption) ?bg49
       case by49 => (intro z hSz; (try dsimp only at hSz); go_simp; (try with_reducible rfl))
       try simp only [Act.put, List.setIfInBounds_toArray, List.set_cons_zero, List.set_cons_succ]
       refine take_at (i := 50) (d := some 74) (v := ?bv50) rfl rfl (by kernel_rfl) (by kernel_rfl) (by kernel_rfl) (fun _ _ _ h => h) (Or.inl ⟨by rfl, ?by50⟩) (by assumption) ?bg50
       case by50 => (intro z hSz; (try dsimp only at hSz); go_simp; (try with_reducible rfl))
       try simp only [Act.put, List.setIfInBounds_toArray, List.set_cons_zero, List.set_cons_succ]
       refine take_at (i := 51) (d := some 75) (v := ?bv51) rfl rfl (by kernel_rfl) (by kernel_rfl) (by kernel_rfl) (fun _ _ _ h => h) (Or.inl ⟨by rfl, ?by51⟩) (by assumption) ?bg51
       case by51 => (intro z hSz; (try dsimp only at hSz); go_simp; (try with_reducible rfl))
       try simp only [Act.put, List.setIfInBounds_toArray, List.set_cons_zero, List.set_cons_succ]
       refine take_at (i := 52) (d := some 76) (v := ?bv52) rfl rfl (by kernel_rfl) (by kernel_rfl) (by kernel_rfl) (fun _ _ _ h => h) (Or.inl ⟨by rfl, ?by52⟩) (by assumption) ?bg52
       case by52 => (intro z hSz; (try dsimp only at hSz); go_simp; (try with_reducible rfl))
       try simp only [Act.put, List.setIfInBounds_toArray, List.set_cons_zero, List.set_cons_succ]
       refine take_at (i := 53) (d := some 77) (v := ?bv53) rfl rfl (by kernel_rfl) (by kernel_rfl) (by kernel_rfl) (fun _ _ _ h => h) (Or.inl ⟨by rfl, ?by53⟩) (by assumption) ?bg53
       case by53 => (intro z hSz; (try dsimp only at hSz); go_simp; (try with_reducible rfl))
       try simp only [Act.put, List.setIfInBounds_toArray, List.set_cons_zero, List.set_cons_succ]
       refine take_at (i := 56) (d := some 80) (v := ?bv56) rfl rfl (by kernel_rfl) (by kernel_rfl) (by kernel_rfl) (fun _ _ _ h => h) (Or.inl ⟨by rfl, ?by56⟩) (by assumption) ?bg56
       case by56 => (intro z hSz; (try dsimp only at hSz); go_simp; (try with_reducible rfl))
       try simp only [Act.put, List.setIfInBounds_toArray, List.set_cons_zero, List.set_cons_succ]
       refine take_at (i := 57) (d := some 81) (v := ?bv57) rfl rfl (by kernel_rfl) (by kernel_rfl) (by kernel_rfl) (fun _ _ _ h => h) (Or.inl ⟨by rfl, ?by57⟩) (by assumption) ?bg57
       case by57 => (intro z hSz; (try dsimp only at hSz); go_simp; (try with_reducible rfl))
       try simp only [Act.put, List.setIfInBounds_toArray, List.set_cons_zero, List.set_cons_succ]
       refine wpAnyH_ready (rs := [54]) (by kernel_rfl) (by simp) ?_
       refine AllReadyH.cons rfl (fun K hK => ?_) AllReadyH.nil
       go_simp
       (go_at_call 43; refine (GD.out _ (by assumption)).mono ?_; rintro r w10 ⟨rfl, hb10'⟩)
       have hk10 := KTH.out _ _ (by assumption) hb10'
       clear hk9
       refine hK.out _ _ hk10 (fun _ => ?_)
       clear hK K
       try simp only [Act.put, List.setIfInBounds_toArray, List.set_cons_zero, List.set_cons_succ]
       refine take_at (i := 55) (d := some 79) (v := ?bv55) rfl rfl (by kernel_rfl) (by kernel_rfl) (by kernel_rfl) (fun _ _ _ h => h) (Or.inl ⟨by rfl, ?by55⟩) (by assumption) ?bg55
       case by55 => (intro z hSz; (try dsimp only at hSz); go_simp; (try with_reducible rfl))
       try simp only [Act.put, List.setIfInBounds_toArray, List.set_cons_zero, List.set_cons_succ]
       refine wpAnyH_ready (rs := [58]) (by kernel_rfl) (by simp) ?_
       refine AllReadyH.cons rfl (fun K hK => ?_) AllReadyH.nil
       go_simp
       (go_at_call 45; refine (SD.out _ (by assumption)).mono ?_; rintro r w11 ⟨rfl, hb11'⟩)
       have hk11 := KTH.out _ _ (by assumption) hb11'
       clear hk10
       refine hK.out _ _ hk11 (fun _ => ?_)
       clear hK K
       try simp only [Act.put, List.setIfInBounds_toArray, List.set_cons_zero, List.set_cons_succ]
       refine take_at (i := 59) (d := some 83) (v := ?bv59) rfl rfl (by kernel_rfl) (by kernel_rfl) (by kernel_rfl) (fun _ _ _ h => h) (Or.inl ⟨by rfl, ?by59⟩) (by assumption) ?bg59
       case by59 => (intro z hSz; (try dsimp only at hSz); go_simp; (try with_reducible rfl))
       try simp only [Act.put, List.setIfInBounds_toArray, List.set_cons_zero, List.set_cons_succ]
       refine take_at (i := 60) (d := some 84) (v := ?bv60) rfl rfl (by kernel_rfl) (by kernel_rfl) (by kernel_rfl) (fun _ _ _ h => h) (Or.inl ⟨by rfl, ?by60⟩) (by assumption) ?bg60
       case by60 => (intro z hSz; (try dsimp only at hSz); go_simp; (try with_reducible rfl))
       try simp only [Act.put, List.setIfInBounds_toArray, List.set_cons_zero, List.set_cons_succ]
       refine take_at (i := 61) (d := some 85) (v := ?bv61) rfl rfl (by kernel_rfl) (by kernel_rfl) (by kernel_rfl) (fun _ _ _ h => h) (Or.inl ⟨by rfl, ?by61⟩) (by assumption) ?bg61
       case by61 => (intro z hSz; (try dsimp only at hSz); go_simp; (try with_reducible rfl))
       try simp only [Act.put, List.setIfInBounds_toArray, List.set_cons_zero, List.set_cons_succ]
       refine take_at (i := 62) (d := some 86) (v := ?bv62) rfl rfl (by kernel_rfl) (by kernel_rfl) (by kernel_rfl) (fun _ _ _ h => h) (Or.inl ⟨by rfl, ?by62⟩) (by assumption) ?bg62
       case by62 => (intro z hSz; (try dsimp only at hSz); go_simp; (try with_reducible rfl))
       try simp only [Act.put, List.setIfInBounds_toArray, List.set_cons_zero, List.set_cons_succ]
       refine take_at (i := 63) (d := some 87) (v := ?bv63) rfl rfl (by kernel_rfl) (by kernel_rfl) (by kernel_rfl) (fun _ _ _ h => h) (Or.inl ⟨by rfl, ?by63⟩) (by assumption) ?bg63
       case by63 => (intro z hSz; (try dsimp only at hSz); go_simp; (try with_reducible rfl))
       try simp only [Act.put, List.setIfInBounds_toArray, List.set_cons_zero, List.set_cons_succ]
       refine take_at (i := 64) (d := some 88) (v := ?bv64) rfl rfl (by kernel_rfl) (by kernel_rfl) (by kernel_rfl) (fun _ _ _ h => h) (Or.inl ⟨by rfl, ?by64⟩) (by assumption) ?bg64
       case by64 => (intro z hSz; (try dsimp only at hSz); go_simp; (try with_reducible rfl))
       try simp only [Act.put, List.setIfInBounds_toArray, List.set_cons_zero, List.set_cons_succ]
       refine take_at (i := 67) (d := some 91) (v := ?bv67) rfl rfl (by kernel_rfl) (by kernel_rfl) (by kernel_rfl) (fun _ _ _ h => h) (Or.inl ⟨by rfl, ?by67⟩) (by assumption) ?bg67
       case by67 => (intro z hSz; (try dsimp only at hSz); go_simp; (try with_reducible rfl))
       try simp only [Act.put, List.setIfInBounds_toArray, List.set_cons_zero, List.set_cons_succ]
       refine take_at (i := 68) (d := some 92) (v := ?bv68) rfl rfl (by kernel_rfl) (by kernel_rfl) (by kernel_rfl) (fun _ _ _ h => h) (Or.inl ⟨by rfl, ?by68⟩) (by assumption) ?bg68
       case by68 => (intro z hSz; (try dsimp only at hSz); go_simp; (try with_reducible rfl))
       try simp only [Act.put, List.setIfInBounds_toArray, List.set_cons_zero, List.set_cons_succ]
       refine wpAnyH_ready (rs := [65]) (by kernel_rfl) (by simp) ?_
       refine AllReadyH.cons rfl (fun K hK => ?_) AllReadyH.nil
       go_simp
       (go_at_call 43; refine (GD.out _ (by assumption)).mono ?_; rintro r w12 ⟨rfl, hb12'⟩)
       have hk12 := KTH.out _ _ (by assumption) hb12'
       clear hk11
       refine hK.out _ _ hk12 (fun _ => ?_)
       clear hK K
       try simp only [Act.put, List.setIfInBounds_toArray, List.set_cons_zero, List.set_cons_succ]
       refine take_at (i := 66) (d := some 90) (v := ?bv66) rfl rfl (by kernel_rfl) (by kernel_rfl) (by kernel_rfl) (fun _ _ _ h => h) (Or.inl ⟨by rfl, ?by66⟩) (by assumption) ?bg66
       case by66 => (intro z hSz; (try dsimp only at hSz); go_simp; (try with_reducible rfl))
       try simp only [Act.put, List.setIfInBounds_toArray, List.set_cons_zero, List.set_cons_succ]
       refine wpAnyH_ready (rs := [69]) (by kernel_rfl) (by simp) ?_
       refine AllReadyH.cons rfl (fun K hK => ?_) AllReadyH.nil
       go_simp
       (go_at_call 45; refine (SD.out _ (by assumption)).mono ?_; rintro r w13 ⟨rfl, hb13'⟩)
       have hk13 := KTH.out _ _ (by assumption) hb13'
       clear hk12
       refine hK.out _ _ hk13 (fun _ => ?_)
       clear hK K
       try simp only [Act.put, List.setIfInBounds_toArray, List.set_cons_zero, List.set_cons_succ]
       refine take_at (i := 70) (d := some 94) (v := ?bv70) rfl rfl (by kernel_rfl) (by kernel_rfl) (by kernel_rfl) (fun _ _ _ h => h) (Or.inl ⟨by rfl, ?by70⟩) (by assumption) ?bg70
       case by70 => (intro z hSz; (try dsimp only at hSz); go_simp; (try with_reducible rfl))
       try simp only [Act.put, List.setIfInBounds_toArray, List.set_cons_zero, List.set_cons_succ]
       refine take_at (i := 71) (d := some 95) (v := ?bv71) rfl rfl (by kernel_rfl) (by kernel_rfl) (by kernel_rfl) (fun _ _ _ h => h) (Or.inl ⟨by rfl, ?by71⟩) (by assumption) ?bg71
       case by71 => (intro z hSz; (try dsimp only at hSz); go_simp; (try with_reducible rfl))
       try simp only [Act.put, List.setIfInBounds_toArray, List.set_cons_zero, List.set_cons_succ]
       refine take_at (i := 72) (d := some 96) (v := ?bv72) rfl rfl (by kernel_rfl) (by kernel_rfl) (by kernel_rfl) (fun _ _ _ h => h) (Or.inl ⟨by rfl, ?by72⟩) (by assumption) ?bg72
       case by72 => (intro z hSz; (try dsimp only at hSz); go_simp; (try with_reducible rfl))
       try simp only [Act.put, List.setIfInBounds_toArray, List.set_cons_zero, List.set_cons_succ]
       refine wpAnyH_done (by kernel_rfl) ?_ _
       refine NoPanic.normal ?_
       go_wp2_with fail
       go_meet
       exact ⟨rfl, hk13.2.2.2.2.2.2.2⟩
    case rest =>
      obtain ⟨rfl, hcb⟩ := hcut
      have zc := hcb.size
      have B5 := FIN.out.trans (hcb.mono B4s)
      obtain ⟨A5, T5⟩ := FA.out _ B5
      clear PI QW GI GD SD RE2 hf1 hf2 hf4 CASES KSH KTH v0 v1 v2 v3 v4 v5 v6 hcb FIN
      go_wp2_with fail
      refine (drawPackEvent_any _ a0 _ cap0 zs A5 hsm).mono ?_
      rintro e u6 ⟨ps, pv, pk, px, a6, c6, ns, rfl, qxb, hnl, N6, hb6⟩
      have z6 := hb6.size
      have B6 := B5.trans (hb6.mono B5.size)
      clear A5 T5 B5 hb6
      go_wp2_with fail
      refine (implPackEvent_any ps pv pk px a6 c6 ns _ (N6.alloc _) qxb.1 qxb.2 (by omega)).mono ?_
      rintro r u7 ⟨a7, c7, rfl, O7, hb7⟩
      have z7 := hb7.size
      simp at z7
      by_cases hf : evF ps pv pk px ns.length = 0
      · obtain ⟨i8, hi8, hy0, hy1, hy2⟩ := info_parts info8
        have hpb : packB ps pv pk px ns = packL ps pv pk px ns := by unfold packB; rw [if_pos hf]
        rw [hpb] at O7 ⊢
        rw [hf]
        have hpl := packL_len ps pv pk px ns
        obtain ⟨rok, t0, t1, t2, t3, t4, t5⟩ := read_pack hf qxb.1 qxb.2
        obtain ⟨y0, y1, y2, y3, y4, y5, y6⟩ := r_ok rok
        have PWf : Hid (∀ n ∈ packL ps pv pk px ns, (Lit.int .u8 n).wf = true) := by
          have := packB_wf (s := ps) (v := pv) (k := pk) (x := px) N6.2.1
          rw [hpb] at this
          exact this
        have hes : esV ps pv pk px ns = leafV (packL ps pv pk px ns) := by unfold esV leafV; rw [if_pos hf, if_neg (by rw [hpl]; omega)]
        have HRD : Hid (rdC (packL ps pv pk px ns ++ [7]) = 0 ∧ rS (packL ps pv pk px ns ++ [7]) = ps ∧ rV (packL ps pv pk px ns ++ [7]) = pv ∧ rK (packL ps pv pk px ns ++ [7]) = pk ∧ rX (packL ps pv pk px ns ++ [7]) = px ∧ rZ (packL ps pv pk px ns ++ [7]) = ns ∧ rU (packL ps pv pk px ns ++ [7]) = ((packL ps pv pk px ns).length : Int)) := ⟨y0, y1.trans t0, y2.trans t1, y3.trans t2, y4.trans t3, y5.trans t4, by rw [y6, t5, hpl]; omega⟩
        have EV : Hid (∀ wx : World, Tab wx → Has wx .u8 a6 ns.length ns → Calls Tryd.prog 50 #[.agg #[.int .i64 ps, .int .i64 pv, .int .i64 pk, .int .i64 px, .slice a6 ns.length c6]] wx fun r w' => r = .returned (.agg #[.int .i64 0, .int .i64 (leafV (packL ps pv pk px ns))]) ∧ Below wx.heap.size wx w') := fun wx h1 h2 => by
          have := implEventSum_any ps pv pk px a6 c6 ns wx h1 h2 qxb.1 qxb.2 (by omega)
          rw [hf, hes] at this
          exact this
        have LS : Hid (∀ wx : World, Tab wx → Has wx .u8 a7 (packL ps pv pk px ns).length (packL ps pv pk px ns) → Calls Tryd.prog 25 #[.slice a7 (packL ps pv pk px ns).length c7] wx fun r w' => r = .returned (.agg #[.int .i64 (leafC (packL ps pv pk px ns)), .int .i64 (leafV (packL ps pv pk px ns))]) ∧ Below wx.heap.size wx w') := fun wx h1 h2 => implLeafSum_any a7 c7 _ wx h1 h2
        have SE : Hid (∀ (wx : World) (a' : Option Addr) (c' : Nat), Has wx .u8 a' ns.length ns → Has wx .u8 a6 ns.length ns → Calls Tryd.prog 49 #[.agg #[.int .i64 ps, .int .i64 pv, .int .i64 pk, .int .i64 px, .slice a' ns.length c'], .agg #[.int .i64 ps, .int .i64 pv, .int .i64 pk, .int .i64 px, .slice a6 ns.length c6]] wx fun r w' => r = .returned (.bool true) ∧ Below wx.heap.size wx w') := fun wx a' c' h1 h2 => by
          have := implSameEvents_any ps pv pk px ps pv pk px a' a6 c' c6 ns ns wx h1 h2
          rw [show sameE ps pv pk px ps pv pk px ns ns = true from by simp [sameE]] at this
          exact this
        have E7 := (EvAt.new u6 ps pv pk px a6 ns.length c6 46).below hb7
        have N7 := (N6.alloc _).below hb7 (Nat.le_refl _)
        have B7 := (B6.alloc (by have := B6.size; omega) _).trans (hb7.mono (by have := B6.size; simp; omega))
        have P7 := has_of_own O7 PWf.out
        have NW6 : Hid (∀ n ∈ ns, (Lit.int .u8 n).wf = true) := N6.2.1
        generalize packL ps pv pk px ns = pb at *
        obtain ⟨Y, hY⟩ : ∃ Y, Y = u7.alloc (.cells #[.int .i64 0, .slice a7 pb.length c7] 30) := ⟨_, rfl⟩
        have E8 : EvAt Y u6.heap.size ps pv pk px a6 ns.length c6 := by rw [hY]; exact E7.old _
        have N8 : Has Y .u8 a6 ns.length ns := by rw [hY]; exact N7.alloc _
        have P8 : Has Y .u8 a7 pb.length pb := by rw [hY]; exact P7.alloc _
        have B8 : Below w.heap.size w Y := by rw [hY]; exact B7.alloc B7.size _
        have r0 : Y.cell? ⟨u7.heap.size, 0, none⟩ = some (.int .i64 0) := by rw [hY]; simp [go_sem]
        have r1 : Y.cell? ⟨u7.heap.size, 1, none⟩ = some (.slice a7 pb.length c7) := by rw [hY]; simp [go_sem]
        have zY : u7.heap.size < Y.heap.size := by rw [hY]; simp
        have pbl : pb.length ≤ 30 := by omega
        have O9 : (Y.alloc (.cells #[] 5)).ownsRow Y.heap.size 5 1 (.slice (some ⟨Y.heap.size, 0, none⟩) 0 0) 0 [] := World.ownsRow_lit Y #[] 0 (Nat.le_refl _) (Nat.zero_le _) rfl
        have P9 : Has (Y.alloc (.cells #[] 5)) .u8 a7 pb.length pb := P8.alloc _
        have r1' : (Y.alloc (.cells #[] 5)).cell? ⟨u7.heap.size, 1, none⟩ = some (.slice a7 pb.length c7) := (((Below.refl _ Y).alloc (Nat.le_refl _) _).cell (p := ⟨u7.heap.size, 1, none⟩) zY).trans r1
        clear hpb hpl rok t0 t1 t2 t3 t4 t5 y0 y1 y2 y3 y4 y5 y6 hes hf E7 N7 B7 P7 O7 hb7 N6 B6
        have hb9 : Y.heap.size ≤ (Y.alloc (.cells #[] 5)).heap.size := by simp
        go_upto_region 13 with (fail)
        rw [← hY]
        generalize u7.heap.size = r at *
        clear hY
        have H7 : Hid (∀ v : World, Has (v.alloc (.cells #[.int .u8 7] 5)) .u8 (some ⟨v.heap.size, 0, none⟩) [(7 : Int)].length [7]) := fun v => ⟨rfl, (by intro n hn; simp at hn; subst hn; rfl), .inr ⟨v.heap.size, 0, rfl, (by simp), fun i hi => (by obtain rfl : i = 0 := (by simp at hi; omega); simp [go_sem])⟩⟩
        go_wp2_with ((first | (at_builtin; have _q := hb9; refine wpList_app rfl _ _ 22 rfl Y.heap.size 5 i8 Tryd.underlying22 hi8 hy0 hy1 hy2 Y.heap.size 0 0 [] rfl O9 a7 c7 pb rfl P9 (by omega) (by omega) hb9 ?_; intro g1 d1 w2 O10a G10 _ l10; have O10 : w2.ownsRow Y.heap.size 5 1 (.slice (some ⟨g1, 0, none⟩) pb.length d1) pb.length (pb.map (.int .u8)) := (by simpa using O10a); have hb10 : Y.heap.size ≤ w2.heap.size := Nat.le_trans hb9 G10.size; have hb11 : Y.heap.size ≤ (w2.alloc (.cells #[.int .u8 7] 5)).heap.size := Nat.le_trans hb10 (by rw [World.size_alloc]; exact Nat.le_succ _); clear O9 O10a _q; clear hb9) | (at_builtin; refine wpList_app rfl _ _ 22 rfl Y.heap.size 5 i8 Tryd.underlying22 hi8 hy0 hy1 hy2 g1 pb.length d1 (pb.map (.int .u8)) rfl (O10.alloc _) (some ⟨w2.heap.size, 0, none⟩) 1 [7] rfl (H7.out w2) (by omega) (by simp) hb11 ?_; intro g2 d2 w4 O11 G11 _ l11) | fail))
        have O12 : w4.ownsRow Y.heap.size 5 1 (.slice (some ⟨g2, 0, none⟩) (pb.length + 1) d2) (pb.length + 1) ((pb ++ [7]).map (.int .u8)) := by simpa using O11
        have hd2 : pb.length + 1 ≤ d2 ∧ d2 ≤ maxLen := by
          rcases O12.2 with ⟨e1, _⟩ | ⟨_, _, _, e1, _, _, h1, h2, _⟩
          · simp at e1
          · simp at e1; rw [e1.2]; exact ⟨h1, h2⟩
        have B10 : Below Y.heap.size Y w2 := ((Below.refl _ Y).alloc (Nat.le_refl _) _).grown G10 (by simp) (fun j e => by cases e; exact Nat.le_refl _)
        have B12 : Below Y.heap.size Y w4 := (B10.alloc hb10 _).grown G11 hb11 (fun j e => by cases e; exact (O10.lt g1 rfl).1)
        have RD := implReadEvent_any g2 0 d2 (pb ++ [7]) w4 (has_of_own O12 (by intro x hx; simp at hx; rcases hx with hx | rfl; exact PWf.out x hx; rfl)) (by simp; omega) (by simp; omega) hd2.2
        obtain ⟨x0, x1, x2, x3, x4, x5, x6⟩ := HRD.out
        rw [show (pb ++ [(7 : Int)]).length = pb.length + 1 from by simp, x0, x1, x2, x3, x4, x5, x6] at RD
        refine RD.mono ?_
        rintro _ u9 ⟨a9, c9, rfl, O13, hb13⟩
        have B13 : Below Y.heap.size Y u9 := B12.trans (hb13.mono B12.size)
        have N13 := has_of_own O13 NW6.out
        clear RD x0 x1 x2 x3 x4 x5 x6 O12 O11 O10 G10 G11 HRD hd2 l10 l11
        obtain ⟨V, hV⟩ : ∃ V, V = u9.alloc (.cells #[.int .i64 0, .int .i64 ps, .int .i64 pv, .int .i64 pk, .int .i64 px, .slice a9 ns.length c9, .int .i64 pb.length] 48) := ⟨_, rfl⟩
        have z13 := B13.size
        have BV : Below Y.heap.size Y V := by rw [hV]; exact B13.alloc z13 _
        have NV9 : Has V .u8 a9 ns.length ns := by rw [hV]; exact N13.alloc _
        obtain ⟨v0, v1, v2, v3, v4, v5, v6⟩ : Er V u9.heap.size 0 ps pv pk px a9 ns.length c9 pb.length := by rw [hV]; exact Er.new u9 0 ps pv pk px a9 ns.length c9 pb.length 48
        have tv : u9.heap.size < V.heap.size := by rw [hV]; simp
        obtain ⟨e0, e1, e2, e3, e4, el⟩ := E8.below BV
        have rv := (BV.cell (p := ⟨r, 1, none⟩) zY).trans r1
        have rl : r < V.heap.size := Nat.lt_of_lt_of_le zY BV.size
        have NV6 := N8.below BV (Nat.le_refl _)
        have PV7 := P8.below BV (Nat.le_refl _)
        have BwV := B8.trans (BV.mono B8.size)
        have TV := (FA.out _ BwV).2
        go_upto_region 14 with (fail)
        rw [← hV]
        generalize u9.heap.size = tq at *
        generalize u6.heap.size = q at *
        have hne : Nonempty (KeptW V) := ⟨⟨V, Below.refl _ _⟩⟩
        have K0 := KeptW.cell v0 tv
        have K1 := KeptW.cell v1 tv
        have K2 := KeptW.cell v2 tv
        have K3 := KeptW.cell v3 tv
        have K4 := KeptW.cell v4 tv
        have K5 := KeptW.cell v5 tv
        have K6 := KeptW.cell v6 tv
        have J0 := KeptW.cell e0 el
        have J1 := KeptW.cell e1 el
        have J2 := KeptW.cell e2 el
        have J3 := KeptW.cell e3 el
        have J4 := KeptW.cell e4 el
        have J5 := KeptW.cell rv rl
        have SEk : Hid (∀ d : KeptW V, Calls Tryd.prog 49 #[.agg #[.int .i64 ps, .int .i64 pv, .int .i64 pk, .int .i64 px, .slice a9 ns.length c9], .agg #[.int .i64 ps, .int .i64 pv, .int .i64 pk, .int .i64 px, .slice a6 ns.length c6]] d.wd fun r w' => r = .returned (.bool true) ∧ Below d.wd.heap.size d.wd w') := fun d => SE.out d.wd a9 c9 (NV9.below d.hb (Nat.le_refl _)) (NV6.below d.hb (Nat.le_refl _))
        have EVk : Hid (∀ d : KeptW V, Calls Tryd.prog 50 #[.agg #[.int .i64 ps, .int .i64 pv, .int .i64 pk, .int .i64 px, .slice a6 ns.length c6]] d.wd fun r w' => r = .returned (.agg #[.int .i64 0, .int .i64 (leafV pb)]) ∧ Below d.wd.heap.size d.wd w') := fun d => EV.out d.wd (TV.below d.hb (Nat.le_refl _)) (NV6.below d.hb (Nat.le_refl _))
        have LSk : Hid (∀ d : KeptW V, Calls Tryd.prog 25 #[.slice a7 pb.length c7] d.wd fun r w' => r = .returned (.agg #[.int .i64 (leafC pb), .int .i64 (leafV pb)]) ∧ Below d.wd.heap.size d.wd w') := fun d => LS.out d.wd (TV.below d.hb (Nat.le_refl _)) (PV7.below d.hb (Nat.le_refl _))
        have FIN : Hid (∀ d : KeptW V, Below w.heap.size w d.wd) := fun d => BwV.trans (d.hb.mono BwV.size)
        generalize leafV pb = lv at *
        generalize leafC pb = lc at *
        have hll : (lv == lv) = true := by simp
        have hnn : ((pb.length : Int) == (pb.length : Int)) = true := by simp
        have hg0 := fld_int0
        have hg1 := fldI1
        clear hV v0 v1 v2 v3 v4 v5 v6 e0 e1 e2 e3 e4 el rv r0 r1 r1' NV9 NV6 PV7 TV BwV BV B13 B12 B10 SE EV LS N13 O13 hb13 P9 P8 N8 E8 H7 hb10 hb11 B8 FA
        refine wp_region_kept (by kernel_rfl) (by kernel_rfl) ?_
        iterate 34 (go_big_quiet_step ((first | (go_at_call 49; exact KeptW.calls (SEk.out _)) | (go_at_call 50; exact KeptW.calls (EVk.out _)) | (go_at_call 25; exact KeptW.calls (LSk.out _)))))
        refine wpQuiet_nil ?_
        rintro _ ⟨d, rfl⟩
        go_wp2
        go_ret
        exact ⟨rfl, FIN.out d⟩
      · have hf' : (evF ps pv pk px ns.length != 0) = true := by simpa using hf
        have hee : (evF ps pv pk px ns.length == evF ps pv pk px ns.length) = true := by simp
        have E7 := (EvAt.new u6 ps pv pk px a6 ns.length c6 46).below hb7
        have N7 := (N6.alloc _).below hb7 (Nat.le_refl _)
        have B7 := (B6.alloc (by have := B6.size; omega) _).trans (hb7.mono (by have := B6.size; simp; omega))
        obtain ⟨Y, hY⟩ : ∃ Y, Y = u7.alloc (.cells #[.int .i64 (evF ps pv pk px ns.length), .slice a7 (packB ps pv pk px ns).length c7] 30) := ⟨_, rfl⟩
        have E8 : EvAt Y u6.heap.size ps pv pk px a6 ns.length c6 := by rw [hY]; exact E7.old _
        have N8 : Has Y .u8 a6 ns.length ns := by rw [hY]; exact N7.alloc _
        have B8 : Below w.heap.size w Y := by rw [hY]; exact B7.alloc B7.size _
        have r0 : Y.cell? ⟨u7.heap.size, 0, none⟩ = some (.int .i64 (evF ps pv pk px ns.length)) := by rw [hY]; simp [go_sem]
        have r1 : Y.cell? ⟨u7.heap.size, 1, none⟩ = some (.slice a7 (packB ps pv pk px ns).length c7) := by rw [hY]; simp [go_sem]
        have zY : u7.heap.size < Y.heap.size := by rw [hY]; simp
        have hf2 := fld_b0
        have SPH : Hid (∀ wx : World, Has wx .u8 a6 ns.length ns → Calls Tryd.prog 47 #[.agg #[.int .i64 ps, .int .i64 pv, .int .i64 pk, .int .i64 px, .slice a6 ns.length c6]] wx fun r w' => ∃ a' c', r = .returned (.agg #[.int .i64 (evF ps pv pk px ns.length), .slice a' (packB ps pv pk px ns).length c']) ∧ w'.ownsRow wx.heap.size 5 1 (.slice a' (packB ps pv pk px ns).length c') (packB ps pv pk px ns).length ((packB ps pv pk px ns).map (.int .u8)) ∧ Below wx.heap.size wx w') := fun wx h => specPackEvent_any ps pv pk px a6 c6 ns wx h qxb.1 qxb.2 (by omega)
        have EFH : Hid (∀ wx : World, Calls Tryd.prog 48 #[.agg #[.int .i64 ps, .int .i64 pv, .int .i64 pk, .int .i64 px, .slice a6 ns.length c6]] wx fun r w' => r = .returned (.int .i64 (evF ps pv pk px ns.length)) ∧ Below wx.heap.size wx w') := fun wx => implEventFault_any ps pv pk px a6 ns.length c6 wx qxb.1 qxb.2 (by omega)
        go_wp2_with fail
        rw [← hY]
        clear hY E7 N7 B7 hb7 O7 N6 B6
        have D0 : Below Y.heap.size Y Y.drew := (Below.refl _ _).drew
        have HN : Hid (∀ wx : World, Below Y.heap.size Y wx → Has wx .u8 a6 ns.length ns) := fun wx h => N8.below h (Nat.le_refl _)
        generalize u6.heap.size = q at *
        generalize u7.heap.size = r at *
        generalize packB ps pv pk px ns = pb at *
        generalize evF ps pv pk px ns.length = ef at *
        clear N8
        have KY : Hid (∀ wx : World, Below Y.heap.size Y wx → wx.cell? ⟨q, 0, none⟩ = some (.int .i64 ps) ∧ wx.cell? ⟨q, 1, none⟩ = some (.int .i64 pv) ∧ wx.cell? ⟨q, 2, none⟩ = some (.int .i64 pk) ∧ wx.cell? ⟨q, 3, none⟩ = some (.int .i64 px) ∧ wx.cell? ⟨q, 4, none⟩ = some (.slice a6 ns.length c6) ∧ wx.cell? ⟨r, 0, none⟩ = some (.int .i64 ef) ∧ Below Y.heap.size Y wx) := fun wx h => by
          have e := E8.below h
          exact ⟨e.c0, e.c1, e.c2, e.c3, e.c4, (h.cell (p := ⟨r, 0, none⟩) zY).trans r0, h⟩
        obtain ⟨e0, e1, e2, e3, e4, _⟩ := E8
        go_region_held3 (fun wx => wx.cell? ⟨q, 0, none⟩ = some (.int .i64 ps) ∧ wx.cell? ⟨q, 1, none⟩ = some (.int .i64 pv) ∧ wx.cell? ⟨q, 2, none⟩ = some (.int .i64 pk) ∧ wx.cell? ⟨q, 3, none⟩ = some (.int .i64 px) ∧ wx.cell? ⟨q, 4, none⟩ = some (.slice a6 ns.length c6) ∧ wx.cell? ⟨r, 0, none⟩ = some (.int .i64 ef) ∧ Below Y.heap.size Y wx)
          ((first | exact KY.out _ D0 | exact KY.out _ D1 | exact KY.out _ D2))
          (first | ((go_at_call 47; refine (SPH.out _ (HN.out _ D0)).mono ?_; rintro r ua ⟨aa, ca, rfl, _, hba⟩; have D1 := D0.trans (hba.mono D0.size))) | ((go_at_call 48; refine (EFH.out _).mono ?_; rintro r ub ⟨rfl, hbb⟩; have D2 := D1.trans (hbb.mono D1.size))))
        go_wp2
        go_ret
        exact ⟨rfl, B8.trans (D2.mono B8.size)⟩

set_option maxRecDepth 100000 in
theorem fnEvents_lifted (os : Os) (started : os.Started) (H : Type) (enc : TypeId × Value → H) :
    ReturnsInHanded {} Tryd.checked os 9 .any (fun w args => (Rows.fnEventsSpec.pre enc Tryd.prog Tryd.f9 [] false w args ∧ laidMetH Tryd.prog [("loop.example/g00565/impl.pieceStarts", Rows.laid_loop_example_g00565_impl_pieceStarts)] w) ∧ sizedMet enc Tryd.prog Tryd.f9 (OpenSpec.ofChange Rows.fnEventsSpec) false w args) (Rows.fnEventsSpec.post enc Tryd.prog Tryd.f9 false true false false) := by
  refine returnsInHanded_of_change_and (C := Tryd.checked) (X := fun w _ => laidMetH Tryd.prog [("loop.example/g00565/impl.pieceStarts", Rows.laid_loop_example_g00565_impl_pieceStarts)] w) (fun _ _ _ hh h => h.of_heap hh) own started (by kernel_rfl) Tryd.func9
    (ChangeSpec.witness_shaped (enc := enc) (C := Tryd.checked) (os := os) (X := fun w _ => laidMetH Tryd.prog [("loop.example/g00565/impl.pieceStarts", Rows.laid_loop_example_g00565_impl_pieceStarts)] w) false (World.doorLaid Tryd.prog 400 os) #[.slice none 0 0] 8 rfl (World.shaped_of_RefB (by kernel_rfl) (by kernel_rfl)) (by kernel_rfl) (by kernel_rfl) (by kernel_rfl) (door_met os _)) ?_
  intro W base args ds gs before hval0 hW _ _ hL _
  have hval : ∀ (j : Nat) t v, Tryd.f9.params[j]? = some t → args[j]? = some v → Value.okWide Tryd.prog W .any base t v := hval0
  have hW' := hW
  obtain ⟨p, q, hA0, hV, rfl, hfz, hnd⟩ := hW
  have hA : DataW.TrodAll enc Tryd.prog W 0 (fun _ => true) true Tryd.f9.params.toList args.toList ds p := hA0
  rw [Tryd.params9] at hA hval
  obtain ⟨v0, vs0, d0, ds0, p0, q0, hargs, rfl, rfl, h0, tr0⟩ := trodAll_cons hA
  obtain ⟨rfl, rfl, rfl⟩ := trodAll_nil tr0
  obtain rfl : args = #[v0] := by cases args; simp_all
  obtain ⟨g, rfl⟩ : ∃ g, gs = [g] := by obtain ⟨_, _, _, _, d, _, e, _⟩ := trodVars_one hV; exact ⟨d, e⟩
  have g0 := h0
  have lt0 : ∀ x ∈ p0, x.block < W.heap.size := by obtain ⟨m, hm⟩ := g0; exact DataW.trod_lt m _ _ _ hm
  obtain ⟨a0, len0, cap0, rfl⟩ := okWide_slice Tryd.underlying22 (hval 0 22 v0 rfl rfl)
  obtain ⟨z0, w0⟩ : ∃ zs, IsRow .u8 W a0 len0 cap0 zs := by
    obtain ⟨fuel, hf⟩ := h0
    rcases open_ints Tryd.underlying22 Tryd.underlying5 (by kernel_rfl) hf with ⟨hcs, _⟩ | ⟨x, l, c, zs, hcs, _, hl, hm, hz, _, hcell, hwz⟩
    · simp [Value.cells] at hcs
      obtain ⟨rfl, rfl, rfl⟩ := hcs
      exact ⟨[], .inl ⟨rfl, rfl, rfl, rfl⟩⟩
    · simp [Value.cells] at hcs
      obtain ⟨rfl, rfl, rfl⟩ := hcs
      exact ⟨zs, .inr ⟨_, rfl, hl, hm, by simpa using hz, hcell, hwz⟩⟩
  clear hA0 hval0
  refine (fnEvents_walk W (tab_of_laid hL) a0 len0 cap0 z0 w0).mono fun e W' ⟨he, bel⟩ => ?_
  subst he
  exact ⟨_, rfl, _, _, _, [], _, _, hW', trodAll_mk1 (shut_bool Tryd.underlying4 _), (trodAll_cons_mk (Below.trod laidOut (by kernel_rfl) (of_decide_eq_true (by kernel_rfl)) g0 bel lt0) trodAll_mk0), Below.trodVars laidOut bel (by kernel_rfl) hV, bel.frame _, fun h => by cases h⟩

theorem fnEvents_row : Rows.FnEventsSaid :=
  OpenClaim.holds_of_wide 9 Tryd.f9 rfl rfl rfl rfl rfl rfl rfl ⟨rfl, rfl, rfl, rfl, rfl⟩ rfl rfl rfl rfl rfl (by kernel_rfl) Tryd.func9 (by kernel_rfl)
    (of_decide_eq_true (by kernel_rfl)) (by unfold Func.isWrapper; first | (rw [if_pos (by decide +kernel)]; kernel_rfl) | (rw [if_neg (by decide +kernel)]; exact ⟨rfl, rfl⟩))
    (fun os started H enc _ => fnEvents_lifted os started H enc)

theorem fnEvents_holds : Rows.FnEventsCardSaid :=
  Claim7.holds_tied_plain_at .later [] [.data] true Rows.fnEventsCard.stood.harness Rows.fnEventsCard.stood.looks
    fnEvents_row (fun _ h => by cases h) (by kernel_rfl) (fun _ h => by cases h) fnEvents_row_tie rfl ⟨rfl, rfl⟩ (by kernel_rfl) rfl
    (fun f fn hf hfn => by
      obtain rfl : f = 9 := Option.some.inj ((show Tryd.prog.funcNamed "loop.example/g00565/laws.FnEvents" = some 9 by kernel_rfl).symm.trans hf) |>.symm
      obtain rfl : fn = Tryd.f9 := (Option.some.inj (Tryd.func9.symm.trans hfn)).symm
      exact ⟨by kernel_rfl, fun j t ht => by
        rw [Tryd.params9] at ht
        have h3 : t = 22 := by
          match j, ht with
          | 0, ht => simp at ht; simp [← ht]
          | _ + 1, ht => simp at ht
        rcases h3 with rfl
        all_goals exact (show Tryd.prog.wantsStandIn _ = false by kernel_rfl)⟩)
    (by kernel_rfl)
#print axioms fnEvents_holds
end Go.Proofs.YtngibnmcagogaaaDoor
