/- At every slice of slices of bytes the program's PiecesFault answers as the specification's model of it, and leaves them as they were; no condition. -/
import Derived.Test.YtnlipmfhilgipabPcsF
import Derived.Test.YtnlipmfhilgipabPcsC
namespace Go.Proofs.Ytnlipmfhilgipab
open Go.ChangeShapes Go.WideShapes Go.ChangeAt Go.RowKit
set_option linter.unusedVariables false
set_option linter.unusedSimpArgs false

set_option maxHeartbeats 4000000 in
theorem fnExactPiecesFault_walk (w : World) (a0 : Option Addr) (len0 cap0 : Nat) (rs0 : List Pc) (w0 : IsPcs w a0 len0 cap0 rs0) :
    Calls Try.prog 3 #[.slice a0 len0 cap0] w fun e w' => e = .returned (.bool true) ∧ Below w.heap.size w w' := by
  obtain ⟨hlc0, hcm0, rfl, A0⟩ := w0
  have hlm0 : rs0.length ≤ maxLen := Nat.le_trans hlc0 hcm0
  have SZ0 : Hid (∀ u : World, Below w.heap.size w u → Calls Try.prog 4 #[.slice a0 rs0.length cap0, .int .i64 (1048576)] u fun r w' => r = .returned (.int .i64 (szV (1048576) rs0)) ∧ Below u.heap.size u w') := fun u hu => szByteSS_any a0 cap0 rs0 (1048576) u (A0.below hu (Nat.le_refl _)) hlm0 (by omega) (by omega)
  by_cases big0 : szV (1048576) rs0 < 0
  case pos =>
    go_enter Try.func3, Try.ntmps3
    go_wp2_with fail
    refine (SZ0.out _ (Below.refl _ _)).mono ?_
    rintro r y0 ⟨rfl, hy0⟩
    go_wp2
    go_ret
    exact ⟨rfl, hy0⟩
  have hsz : rs0.length ≤ 1048576 ∧ sumZ rs0 ≤ 1048576 := by
    unfold szV at big0
    split at big0
    · omega
    · omega
  obtain ⟨hp0a, hp0b⟩ := hsz
  have HZ : Hid (∀ r ∈ rs0, r.zs.length ≤ 1048576) := fun r hr => Nat.le_trans (sumZ_mem hr) hp0b
  have WP : Hid (∀ r ∈ rs0, (∀ n ∈ r.zs, (Lit.int .u8 n).wf = true) ∧ r.zs.length ≤ maxLen) := fun r hr => ⟨(A0.2 r hr).1.2.1, Nat.le_trans (A0.2 r hr).2.1 (A0.2 r hr).2.2⟩
  have FA : Hid (∀ u : World, Below w.heap.size w u → HasP u a0 rs0) := fun u hu => A0.below hu (Nat.le_refl _)
  have SP : Hid (∀ (p : Option Addr) (qs : List Pc) (x : World), HasP x p qs → qs.map Pc.zs = rs0.map Pc.zs → Calls Try.prog 5 #[.slice p rs0.length rs0.length] x fun r w' => r = .returned (.int .i64 (pcF rs0)) ∧ Below x.heap.size x w') := by
    intro p qs x h e
    have := specPiecesFault_any p rs0.length qs x h (by rw [zs_len e]; exact hp0a) (zs_mem e (P := fun z => z.length ≤ 1048576) HZ.out)
    rw [pcF_zs e, zs_len e] at this
    exact this
  have IM : Hid (∀ (p : Option Addr) (qs : List Pc) (x : World), HasP x p qs → qs.map Pc.zs = rs0.map Pc.zs → Calls Try.prog 7 #[.slice p rs0.length rs0.length] x fun r w' => r = .returned (.int .i64 (pcF rs0)) ∧ Below x.heap.size x w') := by
    intro p qs x h e
    have := implPiecesFault_any p rs0.length qs x h (by rw [zs_len e]; exact hp0a) (zs_mem e (P := fun z => z.length ≤ 1048576) HZ.out)
    rw [pcF_zs e, zs_len e] at this
    exact this
  have hw : ∀ r ∈ rs0, (∀ n ∈ r.zs, (Lit.int .u8 n).wf = true) ∧ r.zs.length ≤ maxLen := WP.out
  have CP : Hid (∀ u : World, Below w.heap.size w u → Calls Try.prog 6 #[.slice a0 rs0.length cap0] u fun r w' => ∃ qs, qs.map Pc.zs = rs0.map Pc.zs ∧ r = .returned (.slice (some ⟨u.heap.size, 0, none⟩) rs0.length rs0.length) ∧ HasP w' (some ⟨u.heap.size, 0, none⟩) qs ∧ Below u.heap.size u w') := by
    intro u hu
    refine (toByteSS_any a0 cap0 rs0 u (FA.out u hu) hp0a HZ.out).mono ?_
    rintro r w' ⟨gs, hgs, rfl, O, hb⟩
    exact ⟨copyP rs0 gs, copyP_zs hgs, rfl, O.has hgs WP.out, hb⟩
  have EQ : Hid (∀ (a b : Option Addr) (ps qs : List Pc) (u : World), HasP u a ps → HasP u b qs → ps.map Pc.zs = rs0.map Pc.zs → qs.map Pc.zs = rs0.map Pc.zs → Calls Try.prog 8 #[.slice a rs0.length rs0.length, .slice b rs0.length rs0.length] u fun r w' => r = .returned (.bool true) ∧ Below u.heap.size u w') := by
    intro a b ps qs u ha hb h1 h2
    have := eqByteSS_any a b rs0.length rs0.length ps qs u ha hb (h2.trans h1.symm) (by rw [zs_len h1]; exact hp0a) (zs_mem h1 (P := fun z => z.length ≤ 1048576) HZ.out)
    rw [zs_len h1, zs_len h2] at this
    exact this
  have hne : (pcF rs0 != pcF rs0) = false := by simp
  generalize pcF rs0 = cd at *
  clear hw A0
  go_enter Try.func3, Try.ntmps3
  go_wp2_with fail
  refine (SZ0.out _ (Below.refl _ _)).mono ?_
  rintro r u1 ⟨rfl, hb1⟩
  go_wp2_with fail
  refine (CP.out _ hb1).mono ?_
  rintro r u2 ⟨q2, e2, rfl, X2, hb2⟩
  have B2 := hb1.trans (hb2.mono hb1.size)
  go_wp2_with fail
  refine (SP.out _ q2 _ X2 e2).mono ?_
  rintro r u3 ⟨rfl, hb3⟩
  have B3 := B2.trans (hb3.mono B2.size)
  go_wp2_with fail
  refine (CP.out _ B3).mono ?_
  rintro r u4 ⟨q4, e4, rfl, X4, hb4⟩
  have B4 := B3.trans (hb4.mono B3.size)
  clear X2 hb2 hb3 hb4 B3 B2
  go_wp2_with fail
  refine (IM.out _ q4 _ X4 e4).mono ?_
  rintro r u5 ⟨rfl, hb5⟩
  have B5 := B4.trans (hb5.mono B4.size)
  have X5 := X4.below hb5 (Nat.le_refl _)
  go_wp2_with fail
  refine (CP.out _ B5).mono ?_
  rintro r u6 ⟨q6, e6, rfl, X6, hb6⟩
  have B6 := B5.trans (hb6.mono B5.size)
  have Y6 := X5.below hb6 (Nat.le_refl _)
  clear X4 X5 hb5 hb6 B4 B5
  go_wp2_with fail
  refine (EQ.out _ _ q4 q6 _ Y6 X6 e4 e6).mono ?_
  rintro r u7 ⟨rfl, hb7⟩
  go_wp2
  go_ret
  exact ⟨rfl, B6.trans (hb7.mono B6.size)⟩

set_option maxRecDepth 100000 in
theorem fnExactPiecesFault_lifted (os : Os) (started : os.Started) (H : Type) (enc : TypeId × Value → H) :
    ReturnsInHanded {} Try.checked os 3 .any (Rows.fnExactPiecesFaultSpec.pre6 enc Try.prog Try.f3 Rows.fnExactPiecesFaultRow.domain false) (Rows.fnExactPiecesFaultSpec.post enc Try.prog Try.f3 false true false false) := by
  refine returnsInHanded_of_change (C := Try.checked) own started (by kernel_rfl) Try.func3
    (ChangeSpec.witness6 (enc := enc) (C := Try.checked) false ⟨#[], #[.slice none 0 0], []⟩ 8 (by kernel_rfl) (by kernel_rfl) (by kernel_rfl) (by kernel_rfl)) ?_
  intro W base args ds gs before hval0 hW hcnd _
  have hval : ∀ (j : Nat) t v, Try.f3.params[j]? = some t → args[j]? = some v → Value.okWide Try.prog W .any base t v := hval0
  have hW' := hW
  obtain ⟨p, q, hA0, hV, rfl, hfz, hnd⟩ := hW
  have hA : DataW.TrodAll enc Try.prog W 0 (fun _ => true) true Try.f3.params.toList args.toList ds p := hA0
  rw [Try.params3] at hA hval
  obtain ⟨v0, vs0, d0, ds0, p0, q0, hargs, rfl, rfl, h0, r0⟩ := trodAll_cons hA
  obtain ⟨rfl, rfl, rfl⟩ := trodAll_nil r0
  obtain rfl : args = #[v0] := by cases args; simp_all
  obtain ⟨rfl, rfl⟩ := trodVars_none hV
  have g0 := h0
  have lt0 : ∀ x ∈ p0, x.block < W.heap.size := by obtain ⟨m, hm⟩ := g0; exact DataW.trod_lt m _ _ _ hm
  obtain ⟨a0, len0, cap0, rfl⟩ := okWide_slice Try.underlying22 (hval 0 22 v0 rfl rfl)
  obtain ⟨rs0, w0⟩ : ∃ rs, IsPcs W a0 len0 cap0 rs := by
    obtain ⟨fuel, hf⟩ := h0
    obtain ⟨a', l', c', rs, e, h⟩ := pcs_of_trod (v := .slice a0 len0 cap0) Try.underlying22 Try.underlying29 Try.underlying5 (by kernel_rfl) (by kernel_rfl) (by simpa [Value.cells] using hf)
    simp at e
    obtain ⟨rfl, rfl, rfl⟩ := e
    exact ⟨rs, h⟩
  clear hA0 hval0
  refine (fnExactPiecesFault_walk W a0 len0 cap0 rs0 w0).mono fun e W' ⟨he, bel⟩ => ?_
  subst he
  exact ⟨_, rfl, _, _, _, [], _, [], hW', trodAll_mk1 (shut_bool Try.underlying4 _), (trodAll_cons_mk (Below.trod laidOut (by kernel_rfl) (of_decide_eq_true (by kernel_rfl)) g0 bel lt0) trodAll_mk0), rfl, bel.frame _, fun h => by cases h⟩

theorem fnExactPiecesFault_holds : Rows.FnExactPiecesFaultSaid :=
  OpenClaim.holds_of_wide 3 Try.f3 rfl rfl rfl rfl rfl rfl rfl ⟨rfl, rfl, rfl, rfl, rfl⟩ rfl rfl rfl rfl rfl (by kernel_rfl) Try.func3 (by kernel_rfl)
    (of_decide_eq_true (by kernel_rfl)) (by unfold Func.isWrapper; first | (rw [if_pos (by decide +kernel)]; kernel_rfl) | (rw [if_neg (by decide +kernel)]; exact ⟨rfl, rfl⟩))
    (fun os started H enc _ => fnExactPiecesFault_lifted os started H enc)
#print axioms fnExactPiecesFault_holds
end Go.Proofs.Ytnlipmfhilgipab
