/- At every slice of bytes the program's ReadHead answers as the specification's model of it, and leaves its argument as it was. -/
import Derived.Test.YtffidkoejlebeaaDoorHdR
import Derived.Test.YtffidkoejlebeaaDoorIHr
import Derived.Test.YtffidkoejlebeaaDoorHdT
import Derived.Test.YtffidkoejlebeaaDoorToParts
import Derived.Test.YtffidkoejlebeaaDoorExc
import Derived.Test.YtffidkoejlebeaaDoorDoor
namespace Go.Proofs.YtffidkoejlebeaaDoor
open Go.ChangeShapes Go.WideShapes Go.ChangeAt Go.RowKit
set_option linter.unusedVariables false
set_option linter.unusedSimpArgs false

set_option maxRecDepth 100000 in
set_option maxHeartbeats 8000000 in
theorem fnExactReadHead_walk (w : World) (hT : Tab w) (a0 : Option Addr) (len0 cap0 : Nat) (z0 : List Int) (w0 : IsRow .u8 w a0 len0 cap0 z0) :
    Calls Tryd.prog 4 #[.slice a0 len0 cap0] w fun e w' => e = .returned (.bool true) ∧ Below w.heap.size w w' := by
  have A0 := Has.of_row w0
  have hlen0 := A0.1
  generalize z0.take len0 = d0 at A0 hlen0
  subst hlen0
  clear w0
  by_cases big0 : 1048576 < d0.length
  case pos =>
    have big0' : (1048576 : Int) < (d0.length : Int) := by omega
    go_enter Tryd.func4, Tryd.ntmps4
    go_wp2
    go_ret
    exact ⟨rfl, Below.refl _ _⟩
  have hs0 : d0.length ≤ 1048576 := by omega
  have hs0' : (d0.length : Int) ≤ 1048576 := by omega
  clear big0
  have hm0 : d0.length ≤ maxLen := by unfold maxLen; omega
  have WF0 : Hid (∀ n ∈ d0, (Lit.int .u8 n).wf = true) := A0.2.1
  obtain ⟨cd, hcd⟩ : ∃ c, c = rdC9 d0 := ⟨_, rfl⟩
  obtain ⟨cz, hcz⟩ : ∃ c, c = rdI d0 (rdZ9 d0) := ⟨_, rfl⟩
  obtain ⟨cr, hcr⟩ : ∃ c, c = rdI d0 (rdR d0) := ⟨_, rfl⟩
  obtain ⟨cm, hcm⟩ : ∃ c, c = rdI d0 (rdM7 d0) := ⟨_, rfl⟩
  obtain ⟨ck, hck⟩ : ∃ c, c = rdI d0 (rdK d0) := ⟨_, rfl⟩
  have SP : Hid (∀ (p0 : Option Addr) (x : World), Has x .u8 p0 d0.length d0 → Calls Tryd.prog 14 #[Value.slice p0 d0.length d0.length] x fun r w' => r = .returned (.agg #[.int .i64 cd, .int .i64 cz, .int .i64 cr, .int .i64 cm, .int .i64 ck]) ∧ Below x.heap.size x w') := by
    show ∀ (p0 : Option Addr) (x : World), Has x .u8 p0 d0.length d0 → Calls Tryd.prog 14 #[Value.slice p0 d0.length d0.length] x fun r w' => r = .returned (.agg #[.int .i64 cd, .int .i64 cz, .int .i64 cr, .int .i64 cm, .int .i64 ck]) ∧ Below x.heap.size x w'
    rw [hcz, hcr, hcm, hck, hcd]
    exact fun p0 x h0 => specReadHead_any p0 d0.length d0 x h0 hs0
  have IM : Hid (∀ (g : Nat) (x : World), Tab x → Has x .u8 (some ⟨g, 0, none⟩) d0.length d0 → Calls Tryd.prog 16 #[Value.slice (some ⟨g, 0, none⟩) d0.length d0.length] x fun r w' => r = .returned (.agg #[.int .i64 cd, .int .i64 cz, .int .i64 cr, .int .i64 cm, .int .i64 ck]) ∧ Below x.heap.size x w') := by
    show ∀ (g : Nat) (x : World), Tab x → Has x .u8 (some ⟨g, 0, none⟩) d0.length d0 → Calls Tryd.prog 16 #[Value.slice (some ⟨g, 0, none⟩) d0.length d0.length] x fun r w' => r = .returned (.agg #[.int .i64 cd, .int .i64 cz, .int .i64 cr, .int .i64 cm, .int .i64 ck]) ∧ Below x.heap.size x w'
    rw [hcz, hcr, hcm, hck, hcd]
    exact fun g x ht h0 => implReadHead_any g 0 d0.length d0 x ht h0 hs0 (Nat.le_refl _) hm0
  clear hcz hcr hcm hck hcd
  have hk0 : (0 : Int) ≤ 1 + (d0.length : Int) := by omega
  have FA : Hid (∀ u : World, Below w.heap.size w u → Has u .u8 a0 d0.length d0) := fun u hu => A0.below hu (Nat.le_refl _)
  have HT : Hid (Tab w) := hT
  clear hT
  clear A0
  go_enter Tryd.func4, Tryd.ntmps4
  go_wp2_with fail
  refine (toBytes_has a0 cap0 d0 _ (FA.out _ (Below.refl _ _)) hs0).mono ?_
  rintro r u1 ⟨rfl, hb1, X1, y1⟩
  have B1 : Below w.heap.size w u1 := hb1
  go_wp2_with fail
  refine (SP.out _ _ X1).mono ?_
  rintro r u2 ⟨rfl, hb2⟩
  have B2 : Below w.heap.size w u2 := B1.trans (hb2.mono B1.size)
  have zS := B2.size
  clear X1 hb1 hb2
  obtain ⟨U, hU⟩ : ∃ U, U = u2.alloc (.cells #[.int .i64 cd, .int .i64 cz, .int .i64 cr, .int .i64 cm, .int .i64 ck] 34) := ⟨_, rfl⟩
  have sU : U.heap.size = u2.heap.size + 1 := by rw [hU]; simp
  have BU : Below w.heap.size w U := by rw [hU]; exact B2.alloc zS _
  have VU : Blk U u2.heap.size #[.int .i64 cd, .int .i64 cz, .int .i64 cr, .int .i64 cm, .int .i64 ck] 34 := by rw [hU]; exact Blk.new _ _ _
  have RU : True := trivial
  have FW : Hid (∀ u : World, Below U.heap.size U u → (Has u .u8 a0 d0.length d0) ∧ Blk u u2.heap.size #[.int .i64 cd, .int .i64 cz, .int .i64 cr, .int .i64 cm, .int .i64 ck] 34 ∧ (True) ∧ Below w.heap.size w u ∧ u2.heap.size < u.heap.size) := fun u h => ⟨FA.out u (BU.trans (h.mono BU.size)), VU.below h VU.lt, RU, BU.trans (h.mono BU.size), by have := h.size; omega⟩
  clear VU RU zS
  go_wp2_with fail
  simp only [← hU]
  clear hU sU
  refine (toBytes_any a0 d0.length cap0 d0 _ (FW.out _ (Below.refl _ _)).1 hs0).mono ?_
  rintro r u3 ⟨rfl, O3, hb3⟩
  have z3 : U.heap.size < u3.heap.size := own_lt O3 _ rfl
  have C3 : Below U.heap.size U u3 := hb3
  have Y3 := has_of_own O3 WF0.out
  go_wp2_with fail
  refine (IM.out _ _ (HT.out.below (FW.out _ C3).2.2.2.1 (Nat.le_refl _)) Y3).mono ?_
  rintro r u4 ⟨rfl, hb4⟩
  have C4 : Below U.heap.size U u4 := C3.trans (hb4.mono C3.size)
  have zG := hb4.size
  replace O3 := own_below O3 hb4
  obtain ⟨W, hW⟩ : ∃ W, W = u4.alloc (.cells #[.int .i64 cd, .int .i64 cz, .int .i64 cr, .int .i64 cm, .int .i64 ck] 34) := ⟨_, rfl⟩
  have sW : W.heap.size = u4.heap.size + 1 := by rw [hW]; simp
  have bW : Below u4.heap.size u4 W := by rw [hW]; exact (Below.refl _ _).alloc (Nat.le_refl _) _
  have VW : Blk W u4.heap.size #[.int .i64 cd, .int .i64 cz, .int .i64 cr, .int .i64 cm, .int .i64 ck] 34 := by rw [hW]; exact Blk.new _ _ _
  have CW : Below U.heap.size U W := C4.trans (bW.mono C4.size)
  have FX0 : Hid (∀ u : World, Ex U.heap.size U.heap.size W u → World.ownsRow u U.heap.size 5 1 (.slice (some ⟨U.heap.size, 0, none⟩) d0.length d0.length) d0.length (d0.map (.int .u8))) := fun u h => own_ex (own_below O3 bW) h (Nat.le_refl _)
  have FV : Hid (∀ (hi : Nat) (u : World), hi ≤ u4.heap.size → Ex U.heap.size hi W u → Blk u u4.heap.size #[.int .i64 cd, .int .i64 cz, .int .i64 cr, .int .i64 cm, .int .i64 ck] 34 ∧ u4.heap.size < u.heap.size) := fun hi u hh h => ⟨VW.ex h (.inr hh), by have := h.size; omega⟩
  have FE : Hid (∀ (hi : Nat) (u : World), Ex U.heap.size hi W u → Below U.heap.size U u) := fun hi u h => CW.trans (Ex.low h CW.size)
  have DW : Below W.heap.size W W := Below.refl _ _
  clear O3 VW bW sW hb4
  have v0 := ((FW.out _ C4).2.1).cell 0
  have v1 := ((FW.out _ C4).2.1).cell 1
  have v2 := ((FW.out _ C4).2.1).cell 2
  have v3 := ((FW.out _ C4).2.1).cell 3
  have v4 := ((FW.out _ C4).2.1).cell 4
  simp at v0 v1 v2 v3 v4
  have qv := (FW.out _ C4).2.2.2.2
  go_wp2_with fail
  simp only [← hW]
  refine (eqHeadR_any cd cz cr cm ck _).mono ?_
  rintro r u5 ⟨rfl, hb5⟩
  have E5 : Ex U.heap.size U.heap.size W u5 := Ex.on (Fr.refl _ _) hb5
  clear v0 v1 v2 v3 v4 qv hb5 hW
  go_wp2_with fail
  refine (toBytes_has a0 cap0 d0 _ (FW.out _ (FE.out _ _ E5)).1 hs0).mono ?_
  rintro r u6 ⟨rfl, hb6, X6, y6⟩
  have E6 : Ex U.heap.size U.heap.size W u6 := Ex.on E5 hb6
  clear hb6
  go_wp2_with fail
  refine (eqBytes_any _ _ _ _ d0 _ (has_of_own (FX0.out _ E6) WF0.out) X6 hs0).mono ?_
  rintro r u7 ⟨rfl, hb7⟩
  have E7 : Ex U.heap.size U.heap.size W u7 := Ex.on E6 hb7
  clear hb7 E6 X6
  go_wp2
  go_ret
  exact ⟨rfl, (FW.out _ (FE.out _ _ E7)).2.2.2.1⟩

set_option maxRecDepth 100000 in
theorem fnExactReadHead_lifted (os : Os) (started : os.Started) (H : Type) (enc : TypeId × Value → H) :
    ReturnsInHanded {} Tryd.checked os 4 .any (fun w args => (Rows.fnExactReadHeadSpec.pre enc Tryd.prog Tryd.f4 [] false w args ∧ laidMetH Tryd.prog [("loop.example/g00565/impl.pieceStarts", Rows.laid_loop_example_g00565_impl_pieceStarts)] w) ∧ sizedMet enc Tryd.prog Tryd.f4 (OpenSpec.ofChange Rows.fnExactReadHeadSpec) false w args) (Rows.fnExactReadHeadSpec.post enc Tryd.prog Tryd.f4 false true false false) := by
  refine returnsInHanded_of_change_and (C := Tryd.checked) (X := fun w _ => laidMetH Tryd.prog [("loop.example/g00565/impl.pieceStarts", Rows.laid_loop_example_g00565_impl_pieceStarts)] w) (fun _ _ _ hh h => h.of_heap hh) own started (by kernel_rfl) Tryd.func4
    (ChangeSpec.witness_shaped (enc := enc) (C := Tryd.checked) (os := os) (X := fun w _ => laidMetH Tryd.prog [("loop.example/g00565/impl.pieceStarts", Rows.laid_loop_example_g00565_impl_pieceStarts)] w) false (World.doorLaid Tryd.prog 400 os) #[.slice none 0 0] 8 rfl (World.shaped_of_RefB (by kernel_rfl) (by kernel_rfl)) (by kernel_rfl) (by kernel_rfl) (by kernel_rfl) (door_met os _)) ?_
  intro W base args ds gs before hval0 hW _ _ hL _
  have hval : ∀ (j : Nat) t v, Tryd.f4.params[j]? = some t → args[j]? = some v → Value.okWide Tryd.prog W .any base t v := hval0
  have hW' := hW
  obtain ⟨p, q, hA0, hV, rfl, hfz, hnd⟩ := hW
  have hA : DataW.TrodAll enc Tryd.prog W 0 (fun _ => true) true Tryd.f4.params.toList args.toList ds p := hA0
  rw [Tryd.params4] at hA hval
  obtain ⟨v0, vs0, d0, ds0, p0, q0, hargs, rfl, rfl, h0, tr0⟩ := trodAll_cons hA
  obtain ⟨rfl, rfl, rfl⟩ := trodAll_nil tr0
  obtain rfl : args = #[v0] := by cases args; simp_all
  obtain ⟨g, rfl⟩ : ∃ g, gs = [g] := by obtain ⟨_, _, _, _, d, _, e, _⟩ := trodVars_one hV; exact ⟨d, e⟩
  have g0 := h0
  have lt0 : ∀ x ∈ p0, x.block < W.heap.size := by obtain ⟨m, hm⟩ := g0; exact DataW.trod_lt m _ _ _ hm
  obtain ⟨a0, len0, cap0, rfl⟩ := okWide_slice Tryd.underlying24 (hval 0 24 v0 rfl rfl)
  obtain ⟨z0, w0⟩ : ∃ zs, IsRow .u8 W a0 len0 cap0 zs := by
    obtain ⟨fuel, hf⟩ := h0
    rcases open_ints Tryd.underlying24 Tryd.underlying5 (by kernel_rfl) hf with ⟨hcs, _⟩ | ⟨x, l, c, zs, hcs, _, hl, hm, hz, _, hcell, hwz⟩
    · simp [Value.cells] at hcs
      obtain ⟨rfl, rfl, rfl⟩ := hcs
      exact ⟨[], .inl ⟨rfl, rfl, rfl, rfl⟩⟩
    · simp [Value.cells] at hcs
      obtain ⟨rfl, rfl, rfl⟩ := hcs
      exact ⟨zs, .inr ⟨_, rfl, hl, hm, by simpa using hz, hcell, hwz⟩⟩
  clear hA0 hval0
  refine (fnExactReadHead_walk W (tab_of_laid hL) a0 len0 cap0 z0 w0).mono fun e W' ⟨he, bel⟩ => ?_
  subst he
  exact ⟨_, rfl, _, _, _, [], _, _, hW', trodAll_mk1 (shut_bool Tryd.underlying4 _), (trodAll_cons_mk (Below.trod laidOut (by kernel_rfl) (of_decide_eq_true (by kernel_rfl)) g0 bel lt0) trodAll_mk0), Below.trodVars laidOut bel (by kernel_rfl) hV, bel.frame _, fun h => by cases h⟩

theorem fnExactReadHead_row : Rows.FnExactReadHeadSaid :=
  OpenClaim.holds_of_wide 4 Tryd.f4 rfl rfl rfl rfl rfl rfl rfl ⟨rfl, rfl, rfl, rfl, rfl⟩ rfl rfl rfl rfl rfl (by kernel_rfl) Tryd.func4 (by kernel_rfl)
    (of_decide_eq_true (by kernel_rfl)) (by unfold Func.isWrapper; first | (rw [if_pos (by decide +kernel)]; kernel_rfl) | (rw [if_neg (by decide +kernel)]; exact ⟨rfl, rfl⟩))
    (fun os started H enc _ => fnExactReadHead_lifted os started H enc)

theorem fnExactReadHead_holds : Rows.FnExactReadHeadCardSaid :=
  Claim7.holds_tied_plain_at .later [] [.data] true Rows.fnExactReadHeadCard.stood.harness Rows.fnExactReadHeadCard.stood.looks
    fnExactReadHead_row (fun _ h => by cases h) (by kernel_rfl) (fun _ h => by cases h) fnExactReadHead_row_tie rfl ⟨rfl, rfl⟩ (by kernel_rfl) rfl
    (fun f fn hf hfn => by
      obtain rfl : f = 4 := Option.some.inj ((show Tryd.prog.funcNamed "loop.example/g00565/laws.FnExactReadHead" = some 4 by kernel_rfl).symm.trans hf) |>.symm
      obtain rfl : fn = Tryd.f4 := (Option.some.inj (Tryd.func4.symm.trans hfn)).symm
      exact ⟨by kernel_rfl, fun j t ht => by
        rw [Tryd.params4] at ht
        have h3 : t = 24 := by
          match j, ht with
          | 0, ht => simp at ht; simp [← ht]
          | _ + 1, ht => simp at ht
        rcases h3 with rfl
        all_goals exact (show Tryd.prog.wantsStandIn _ = false by kernel_rfl)⟩)
    (by kernel_rfl)
#print axioms fnExactReadHead_holds
end Go.Proofs.YtffidkoejlebeaaDoor
