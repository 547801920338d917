/- At every slice of bytes the program's ReadEvent answers as the specification's model of it, leaves its argument as it was and answers in memory of its own; no condition. -/
import Derived.Test.YtbacpnopklkadaaReadE
import Derived.Test.YtbacpnopklkadaaReadI
import Derived.Test.YtbacpnopklkadaaMarkV
import Derived.Deep.DeepCutAuto
namespace Go.Proofs.Ytbacpnopklkadaa
open Go.ChangeShapes Go.WideShapes Go.ChangeAt Go.RowKit
set_option linter.unusedVariables false
set_option linter.unusedSimpArgs false

set_option maxHeartbeats 4000000 in
theorem fnExactReadEvent_walk (w : World) (a0 : Option Addr) (len0 cap0 : Nat) (z0 : List Int) (w0 : IsRow .u8 w a0 len0 cap0 z0) :
    Calls Try.prog 5 #[.slice a0 len0 cap0] w fun e w' => e = .returned (.bool true) ∧ Below w.heap.size w w' := by
  have A0 := Has.of_row w0
  have hlen := A0.1
  generalize z0.take len0 = zs at A0 hlen
  subst hlen
  clear w0
  by_cases hbig : 1048576 < zs.length
  · have hbig' : (1048576 : Int) < (zs.length : Int) := by omega
    go_enter Try.func5, Try.ntmps5
    go_wp2
    go_ret
    exact ⟨rfl, Below.refl _ _⟩
  · have hsm : zs.length ≤ 1048576 := by omega
    have hsm' : (zs.length : Int) ≤ 1048576 := by omega
    have SP : Hid (∀ (g : Nat) (x : World), Has x .u8 (some ⟨g, 0, none⟩) zs.length zs → Calls Try.prog 18 #[.slice (some ⟨g, 0, none⟩) zs.length zs.length] x fun r w' => ∃ a' c', r = .returned (.agg #[.int .i64 (rdC zs), .int .i64 (rS zs), .int .i64 (rV zs), .int .i64 (rK zs), .int .i64 (rX zs), .slice a' (rZ zs).length c', .int .i64 (rU zs)]) ∧ w'.ownsRow x.heap.size 5 1 (.slice a' (rZ zs).length c') (rZ zs).length ((rZ zs).map (.int .u8)) ∧ Below x.heap.size x w') := fun g x h => specReadEvent_any _ _ zs x h hsm (Nat.le_refl _) (by unfold maxLen; omega)
    have IM : Hid (∀ (g : Nat) (x : World), Has x .u8 (some ⟨g, 0, none⟩) zs.length zs → Calls Try.prog 20 #[.slice (some ⟨g, 0, none⟩) zs.length zs.length] x fun r w' => ∃ a' c', r = .returned (.agg #[.int .i64 (rdC zs), .int .i64 (rS zs), .int .i64 (rV zs), .int .i64 (rK zs), .int .i64 (rX zs), .slice a' (rZ zs).length c', .int .i64 (rU zs)]) ∧ w'.ownsRow x.heap.size 5 1 (.slice a' (rZ zs).length c') (rZ zs).length ((rZ zs).map (.int .u8)) ∧ Below x.heap.size x w') := fun g x h => implReadEvent_any g 0 zs.length zs x h hsm (Nat.le_refl _) (by unfold maxLen; omega)
    have YW : Hid (∀ n ∈ rZ zs, (Lit.int .u8 n).wf = true) := fun n hn => A0.2.1 n (by unfold rZ at hn; split at hn; exact List.mem_of_mem_drop (List.mem_of_mem_take hn); cases hn)
    have YL : (rZ zs).length ≤ 1048576 := by
      unfold rZ
      split
      · unfold rdZ; simp; omega
      · simp
    have ZW : Hid (∀ n ∈ zs, (Lit.int .u8 n).wf = true) := A0.2.1
    generalize rZ zs = ys at SP IM YL YW
    generalize rdC zs = cd at SP IM
    generalize rS zs = es at SP IM
    generalize rV zs = ev at SP IM
    generalize rK zs = ek at SP IM
    generalize rX zs = ex at SP IM
    generalize rU zs = us at SP IM
    have hge : (0 : Int) ≤ 1 + (ys.length : Int) := by omega
    have hgz : (0 : Int) ≤ 1 + (zs.length : Int) := by omega
    have hne : ((1 + (ys.length : Int)) != (1 + (ys.length : Int))) = false := by simp
    have FA : Hid (∀ wx : World, Below w.heap.size w wx → Has wx .u8 a0 zs.length zs) := fun wx h => A0.below h (Nat.le_refl _)
    go_enter Try.func5, Try.ntmps5
    go_wp2_with fail
    refine (toBytes_any a0 zs.length cap0 zs _ A0 hsm).mono ?_
    rintro r u2 ⟨rfl, O2, hb2⟩
    have z2 := hb2.size
    have X2 := has_of_own O2 ZW.out
    clear O2 A0
    go_wp2_with fail
    refine (SP.out _ _ X2).mono ?_
    rintro r u3 ⟨b1, e1, rfl, O3, hb3⟩
    have z3 := hb3.size
    have P3 := hb2.trans (hb3.mono (by omega))
    have Y3 := has_of_own O3 YW.out
    clear X2 hb2 hb3 O3
    have GA : Hid (∀ wx : World, Below (u3.heap.size + 1) (u3.alloc (.cells #[.int .i64 cd, .int .i64 es, .int .i64 ev, .int .i64 ek, .int .i64 ex, .slice b1 ys.length e1, .int .i64 us] 38)) wx → Has wx .u8 a0 zs.length zs ∧ Er wx u3.heap.size cd es ev ek ex b1 ys.length e1 us ∧ Has wx .u8 b1 ys.length ys) := fun wx h =>
      ⟨FA.out wx ((P3.alloc (by omega) _).trans (h.mono (by omega))), (Er.new u3 cd es ev ek ex b1 ys.length e1 us 38).below h (by omega), (Y3.alloc _).below h (by simp)⟩
    have A3 := FA.out _ P3
    go_wp2_with fail
    refine (toBytes_any a0 zs.length cap0 zs _ (A3.alloc _) hsm).mono ?_
    rintro r u4 ⟨rfl, O4, hb4⟩
    have z4 := hb4.size
    simp at z4
    have W4 : Below (u3.heap.size + 1) (u3.alloc (.cells #[.int .i64 cd, .int .i64 es, .int .i64 ev, .int .i64 ek, .int .i64 ex, .slice b1 ys.length e1, .int .i64 us] 38)) u4 := hb4.mono (by simp)
    have O4' : Hid (World.ownsRow u4 (u3.heap.size + 1) 5 1 (.slice (some ⟨u3.heap.size + 1, 0, none⟩) zs.length zs.length) zs.length (zs.map (.int .u8))) := by show World.ownsRow _ _ _ _ _ _ _; simpa using O4
    have X4 := has_of_own O4'.out ZW.out
    have q4 : u3.heap.size + 1 < u4.heap.size := own_lt O4'.out _ rfl
    clear A3 hb4 Y3 O4
    go_wp2_with fail
    refine (IM.out _ _ X4).mono ?_
    rintro r u5 ⟨b2, e2, rfl, O5, hb5⟩
    have z5 := hb5.size
    have W5 := W4.trans (hb5.mono (by omega))
    have N5 : Hid (World.ownsRow u5 (u3.heap.size + 1) 5 1 (.slice (some ⟨u3.heap.size + 1, 0, none⟩) zs.length zs.length) zs.length (zs.map (.int .u8))) := own_below O4'.out hb5
    have O5' : Hid (World.ownsRow u5 u4.heap.size 5 1 (.slice b2 ys.length e2) ys.length (ys.map (.int .u8))) := O5
    have Q5 := has_of_own O5 YW.out
    have g2 := own_lt O5
    have g2b := own_base O5
    obtain ⟨_, ⟨v0, v1, v2, v3, v4, v5, v6⟩, Y5⟩ := GA.out _ W5
    have q5 : u3.heap.size < u5.heap.size := by omega
    clear O5 hb5 O4' W4 X4
    go_wp2_with fail
    refine (eqEventR_any cd es ev ek ex us b2 b1 e2 e1 ys _ (Q5.alloc _) (Y5.alloc _) YL).mono ?_
    rintro r u6 ⟨rfl, hb6⟩
    have z6 := hb6.size
    simp at z6
    have V6 := (Er.new u5 cd es ev ek ex b2 ys.length e2 us 38).below hb6 (by simp)
    have hB6 := ((Below.refl u5.heap.size u5).alloc (Nat.le_refl _) (.cells #[.int .i64 cd, .int .i64 es, .int .i64 ev, .int .i64 ek, .int .i64 ex, .slice b2 ys.length e2, .int .i64 us] 38)).trans (hb6.mono (by simp))
    have O6 : Hid (World.ownsRow u6 u4.heap.size 5 1 (.slice b2 ys.length e2) ys.length (ys.map (.int .u8))) := own_below O5'.out hB6
    have N6 : Hid (World.ownsRow u6 (u3.heap.size + 1) 5 1 (.slice (some ⟨u3.heap.size + 1, 0, none⟩) zs.length zs.length) zs.length (zs.map (.int .u8))) := own_below N5.out hB6
    have W6 := W5.trans (hB6.mono (by omega))
    clear hb6 hB6 W5 O5' N5 Q5 Y5 v0 v1 v2 v3 v4 v5 v6
    obtain ⟨A6, _, _⟩ := GA.out _ W6
    go_wp2_with fail
    refine (toBytes_any a0 zs.length cap0 zs _ A6 hsm).mono ?_
    rintro r u7 ⟨rfl, O7, hb7⟩
    have z7 := hb7.size
    have X7 := has_of_own O7 ZW.out
    have N7 : Hid (World.ownsRow u7 (u3.heap.size + 1) 5 1 (.slice (some ⟨u3.heap.size + 1, 0, none⟩) zs.length zs.length) zs.length (zs.map (.int .u8))) := own_below N6.out hb7
    have M7 := has_of_own N7.out ZW.out
    have O7' : Hid (World.ownsRow u7 u4.heap.size 5 1 (.slice b2 ys.length e2) ys.length (ys.map (.int .u8))) := own_below O6.out hb7
    have V7 := V6.below hb7 (by omega)
    have W7 := W6.trans (hb7.mono (by omega))
    clear O7 O6 N6 V6 W6 hb7 A6
    go_wp2_with fail
    refine (eqBytes_any _ _ _ _ zs _ M7 X7 hsm).mono ?_
    rintro r u8 ⟨rfl, hb8⟩
    have z8 := hb8.size
    have N8 : Hid (World.ownsRow u8 (u3.heap.size + 1) 5 1 (.slice (some ⟨u3.heap.size + 1, 0, none⟩) zs.length zs.length) zs.length (zs.map (.int .u8))) := own_below N7.out hb8
    have O8 : Hid (World.ownsRow u8 u4.heap.size 5 1 (.slice b2 ys.length e2) ys.length (ys.map (.int .u8))) := own_below O7'.out hb8
    have V8 := V7.below hb8 (by omega)
    have W8 := W7.trans (hb8.mono (by omega))
    clear O7' N7 V7 W7 hb8 M7 X7
    go_wp2_with fail
    refine (markByteS_any _ _ _ 1 zs _ N8.out (by omega) (by omega) (by omega)).mono ?_
    rintro r u9 ⟨rfl, O9n, hm9⟩
    have z9 := hm9.size
    have W9 := W8.trans (hm9.below (B := u3.heap.size + 1) (fun ad had => by cases had; exact Nat.le_refl _))
    have V9 := V8.mk hm9 (fun ad had => by cases had; show _ ≠ u3.heap.size + 1; omega)
    have O9 : Hid (World.ownsRow u9 u4.heap.size 5 1 (.slice b2 ys.length e2) ys.length (ys.map (.int .u8))) := hm9.own O8.out (fun ad had => by cases had; exact q4)
    clear N8 hm9 O9n O8 V8 W8
    obtain ⟨_, ⟨v0, v1, v2, v3, v4, v5, v6⟩, Y9⟩ := GA.out _ W9
    have V9' : Hid (Er u9 u5.heap.size cd es ev ek ex b2 ys.length e2 us) := V9
    obtain ⟨t0, t1, t2, t3, t4, t5, t6⟩ := V9
    have Q9 := has_of_own O9.out YW.out
    have q9 : u3.heap.size < u9.heap.size := by omega
    go_wp2_with fail
    refine (eqEventR_any cd es ev ek ex us b2 b1 e2 e1 ys _ Q9 Y9 YL).mono ?_
    rintro r u10 ⟨rfl, hb10⟩
    have z10 := hb10.size
    have W10 := W9.trans (hb10.mono (by omega))
    have V10 := V9'.out.below hb10 (by omega)
    have O10 : Hid (World.ownsRow u10 u4.heap.size 5 1 (.slice b2 ys.length e2) ys.length (ys.map (.int .u8))) := own_below O9.out hb10
    clear v0 v1 v2 v3 v4 v5 v6 t0 t1 t2 t3 t4 t5 t6 Y9 Q9 O9 hb10 W9 V9'
    have V10' : Hid (Er u10 u5.heap.size cd es ev ek ex b2 ys.length e2 us) := V10
    obtain ⟨t0, t1, t2, t3, t4, t5, t6⟩ := V10
    go_wp2_with fail
    refine (markEventR_any _ cd es ev ek ex us b2 e2 ys _ O10.out (by omega)).mono ?_
    rintro r u11 ⟨rfl, O11, hm11⟩
    have z11 := hm11.size
    simp at z11
    have hA := ((Below.refl u10.heap.size u10).alloc (Nat.le_refl _) (.cells #[.int .i64 cd, .int .i64 es, .int .i64 ev, .int .i64 ek, .int .i64 ex, .slice b2 ys.length e2, .int .i64 us] 38)).alloc (by simp) (.cells #[.int .i64 es, .int .i64 ev, .int .i64 ek, .int .i64 ex, .slice b2 ys.length e2] 27)
    have W11 := (W10.trans (hA.mono (by omega))).trans (hm11.below (B := u3.heap.size + 1) (fun ad had => by have := g2b ad had; omega))
    have V11 := (V10'.out.below hA (by omega)).mk hm11 (fun ad had => by have := g2 ad had; omega)
    have P11 := has_of_own O11 (markL_wf 1 ys.length)
    have OO11 : Hid (World.ownsRow u11 u4.heap.size 5 1 (.slice b2 ys.length e2) ys.length ((markL 1 ys.length).map (.int .u8))) := O11
    clear t0 t1 t2 t3 t4 t5 t6 O10 hm11 W10 O11 V10' hA
    have V11' : Hid (Er u11 u5.heap.size cd es ev ek ex b2 ys.length e2 us) := V11
    obtain ⟨t0, t1, t2, t3, t4, t5, t6⟩ := V11
    go_wp2_with fail
    refine (heldEventR_any cd es ev ek ex us b2 e2 ys.length _ P11 (by omega)).mono ?_
    rintro r u12 ⟨rfl, hb12⟩
    have z12 := hb12.size
    have W12 := W11.trans (hb12.mono (by omega))
    have V12 := V11'.out.below hb12 (by omega)
    have OO12 : Hid (World.ownsRow u12 u4.heap.size 5 1 (.slice b2 ys.length e2) ys.length ((markL 1 ys.length).map (.int .u8))) := own_below OO11.out hb12
    clear t0 t1 t2 t3 t4 t5 t6 OO11 hb12 W11 P11 V11'
    obtain ⟨A12, _⟩ := GA.out _ W12
    go_wp2_with fail
    refine (toBytes_any a0 zs.length cap0 zs _ A12 hsm).mono ?_
    rintro r u13 ⟨rfl, O13, hb13⟩
    have z13 := hb13.size
    have X13 := has_of_own O13 ZW.out
    have W13 := W12.trans (hb13.mono (by omega))
    have V13 := V12.below hb13 (by omega)
    have OO13 : Hid (World.ownsRow u13 u4.heap.size 5 1 (.slice b2 ys.length e2) ys.length ((markL 1 ys.length).map (.int .u8))) := own_below OO12.out hb13
    clear A12 OO12 V12 W12 hb13 O13
    go_wp2_with fail
    refine (IM.out _ _ X13).mono ?_
    rintro r u14 ⟨b3, e3, rfl, O14, hb14⟩
    have z14 := hb14.size
    have W14 := W13.trans (hb14.mono (by omega))
    have V14 := V13.below hb14 (by omega)
    have OO14 : Hid (World.ownsRow u14 u4.heap.size 5 1 (.slice b2 ys.length e2) ys.length ((markL 1 ys.length).map (.int .u8))) := own_below OO13.out hb14
    have Q14 := has_of_own O14 YW.out
    clear O14 OO13 V13 W13 hb14 X13
    obtain ⟨_, ⟨v0, v1, v2, v3, v4, v5, v6⟩, Y14⟩ := GA.out _ W14
    have q14 : u3.heap.size < u14.heap.size := by omega
    have q14' : u5.heap.size < u14.heap.size := by omega
    go_wp2_with fail
    refine (eqEventR_any cd es ev ek ex us b3 b1 e3 e1 ys _ (Q14.alloc _) (Y14.alloc _) YL).mono ?_
    rintro r u15 ⟨rfl, hb15⟩
    have z15 := hb15.size
    simp at z15
    have hB15 := ((Below.refl u14.heap.size u14).alloc (Nat.le_refl _) (.cells #[.int .i64 cd, .int .i64 es, .int .i64 ev, .int .i64 ek, .int .i64 ex, .slice b3 ys.length e3, .int .i64 us] 38)).trans (hb15.mono (by simp))
    have W15 := W14.trans (hB15.mono (by omega))
    have V15 := V14.below hB15 (by omega)
    have OO15 : Hid (World.ownsRow u15 u4.heap.size 5 1 (.slice b2 ys.length e2) ys.length ((markL 1 ys.length).map (.int .u8))) := own_below OO14.out hB15
    have P15 := has_of_own OO15.out (markL_wf 1 ys.length)
    clear v0 v1 v2 v3 v4 v5 v6 OO14 W14 hb15 hB15 Q14 Y14 V14
    obtain ⟨t0, t1, t2, t3, t4, t5, t6⟩ := V15
    go_wp2_with fail
    refine (heldEventR_any cd es ev ek ex us b2 e2 ys.length _ P15 (by omega)).mono ?_
    rintro r u16 ⟨rfl, hb16⟩
    go_wp2
    go_ret
    refine ⟨rfl, ?_⟩
    have W16 := W15.trans (hb16.mono (by omega))
    exact (P3.alloc (by omega) _).trans (W16.mono (by omega))

set_option maxRecDepth 100000 in
theorem fnExactReadEvent_lifted (os : Os) (started : os.Started) (H : Type) (enc : TypeId × Value → H) :
    ReturnsInHanded {} Try.checked os 5 .any (Rows.fnExactReadEventSpec.pre6 enc Try.prog Try.f5 Rows.fnExactReadEventRow.domain false) (Rows.fnExactReadEventSpec.post enc Try.prog Try.f5 false true false false) := by
  refine returnsInHanded_of_change (C := Try.checked) own started (by kernel_rfl) Try.func5
    (ChangeSpec.witness6 (enc := enc) (C := Try.checked) false ⟨#[], #[.slice none 0 0], []⟩ 8 (by kernel_rfl) (by kernel_rfl) (by kernel_rfl) (by kernel_rfl)) ?_
  intro W base args ds gs before hval0 hW hcnd _
  have hval : ∀ (j : Nat) t v, Try.f5.params[j]? = some t → args[j]? = some v → Value.okWide Try.prog W .any base t v := hval0
  have hW' := hW
  obtain ⟨p, q, hA0, hV, rfl, hfz, hnd⟩ := hW
  have hA : DataW.TrodAll enc Try.prog W 0 (fun _ => true) true Try.f5.params.toList args.toList ds p := hA0
  rw [Try.params5] at hA hval
  obtain ⟨v0, vs0, d0, ds0, p0, q0, hargs, rfl, rfl, h0, r0⟩ := trodAll_cons hA
  obtain ⟨rfl, rfl, rfl⟩ := trodAll_nil r0
  obtain rfl : args = #[v0] := by cases args; simp_all
  obtain ⟨rfl, rfl⟩ := trodVars_none hV
  have g0 := h0
  have lt0 : ∀ x ∈ p0, x.block < W.heap.size := by obtain ⟨m, hm⟩ := g0; exact DataW.trod_lt m _ _ _ hm
  obtain ⟨a0, len0, cap0, rfl⟩ := okWide_slice Try.underlying22 (hval 0 22 v0 rfl rfl)
  obtain ⟨z0, w0⟩ : ∃ zs, IsRow .u8 W a0 len0 cap0 zs := by
    obtain ⟨fuel, hf⟩ := h0
    rcases open_ints Try.underlying22 Try.underlying5 (by kernel_rfl) hf with ⟨hcs, _⟩ | ⟨x, l, c, zs, hcs, _, hl, hm, hz, _, hcell, hwz⟩
    · simp [Value.cells] at hcs
      obtain ⟨rfl, rfl, rfl⟩ := hcs
      exact ⟨[], .inl ⟨rfl, rfl, rfl, rfl⟩⟩
    · simp [Value.cells] at hcs
      obtain ⟨rfl, rfl, rfl⟩ := hcs
      exact ⟨zs, .inr ⟨_, rfl, hl, hm, by simpa using hz, hcell, hwz⟩⟩
  clear hA0 hval0
  refine (fnExactReadEvent_walk W a0 len0 cap0 z0 w0).mono fun e W' ⟨he, bel⟩ => ?_
  subst he
  exact ⟨_, rfl, _, _, _, [], _, [], hW', trodAll_mk1 (shut_bool Try.underlying4 _), (trodAll_cons_mk (Below.trod laidOut (by kernel_rfl) (of_decide_eq_true (by kernel_rfl)) g0 bel lt0) trodAll_mk0), rfl, bel.frame _, fun h => by cases h⟩

theorem fnExactReadEvent_holds : Rows.FnExactReadEventSaid :=
  OpenClaim.holds_of_wide 5 Try.f5 rfl rfl rfl rfl rfl rfl rfl ⟨rfl, rfl, rfl, rfl, rfl⟩ rfl rfl rfl rfl rfl (by kernel_rfl) Try.func5 (by kernel_rfl)
    (of_decide_eq_true (by kernel_rfl)) (by unfold Func.isWrapper; first | (rw [if_pos (by decide +kernel)]; kernel_rfl) | (rw [if_neg (by decide +kernel)]; exact ⟨rfl, rfl⟩))
    (fun os started H enc _ => fnExactReadEvent_lifted os started H enc)
#print axioms fnExactReadEvent_holds
end Go.Proofs.Ytbacpnopklkadaa
