/- At every slice of slices of bytes, number, slice of bytes and slice of int64 the program's LeafClash answers as the specification's model of it, in memory of its own, and leaves its arguments as they were; the table that begins pieces starts as the program's text lays it. -/
import Derived.Test.YtklhkhlmhddmcaaDoorILeafC
import Derived.Test.YtklhkhlmhddmcaaDoorExt6V
import Derived.Test.YtklhkhlmhddmcaaDoorLkX
import Derived.Test.YtklhkhlmhddmcaaDoorDoor
import Derived.Test.YtklhkhlmhddmcaaDoorDoor
namespace Go.Proofs.YtklhkhlmhddmcaaDoor
open Go.ChangeShapes Go.WideShapes Go.ChangeAt Go.RowKit
set_option linter.unusedVariables false
set_option linter.unusedSimpArgs false

set_option maxRecDepth 100000 in
set_option maxHeartbeats 16000000 in
theorem fnExactLeafClash_walk (w : World) (hT : Tab w) (a0 : Option Addr) (len0 cap0 : Nat) (rs0 : List Pc) (w0 : IsPcs w a0 len0 cap0 rs0) (a1 : Int) (w1 : (Lit.int .i64 a1).wf = true) (a2 : Option Addr) (len2 cap2 : Nat) (z2 : List Int) (w2 : IsRow .u8 w a2 len2 cap2 z2) (a3 : Option Addr) (len3 cap3 : Nat) (z3 : List Int) (w3 : IsRow .i64 w a3 len3 cap3 z3) :
    Calls Tryd.prog 6 #[.slice a0 len0 cap0, .int .i64 a1, .slice a2 len2 cap2, .slice a3 len3 cap3] w fun e w' => e = .returned (.bool true) ∧ Below w.heap.size w w' := by
  obtain ⟨hlc0, hcm0, rfl, A0⟩ := w0
  have A2 := Has.of_row w2
  have hlen2 := A2.1
  generalize z2.take len2 = d2 at A2 hlen2
  subst hlen2
  clear w2
  have A3 := Has.of_row w3
  have hlen3 := A3.1
  generalize z3.take len3 = d3 at A3 hlen3
  subst hlen3
  clear w3
  by_cases big2 : 1048576 < d2.length
  case pos =>
    have big2' : (1048576 : Int) < (d2.length : Int) := by omega
    go_enter Tryd.func6, Tryd.ntmps6
    go_wp2
    go_ret
    exact ⟨rfl, Below.refl _ _⟩
  have hs2 : d2.length ≤ 1048576 := by omega
  have hs2' : (d2.length : Int) ≤ 1048576 := by omega
  clear big2
  by_cases big3 : 1048576 < d3.length
  case pos =>
    have big3' : (1048576 : Int) < (d3.length : Int) := by omega
    go_enter Tryd.func6, Tryd.ntmps6
    go_wp2
    go_ret
    exact ⟨rfl, Below.refl _ _⟩
  have hs3 : d3.length ≤ 1048576 := by omega
  have hs3' : (d3.length : Int) ≤ 1048576 := by omega
  clear big3
  have hlm0 : rs0.length ≤ maxLen := Nat.le_trans hlc0 hcm0
  have SZ0 : Hid (∀ u : World, Below w.heap.size w u → Calls Tryd.prog 34 #[.slice a0 rs0.length cap0, .int .i64 (1048576)] u fun r w' => r = .returned (.int .i64 (szV (1048576) rs0)) ∧ Below u.heap.size u w') := fun u hu => szByteSS_any a0 cap0 rs0 (1048576) u (A0.below hu (Nat.le_refl _)) hlm0 (by omega) (by omega)
  by_cases big0 : szV (1048576) rs0 < 0
  case pos =>
    go_enter Tryd.func6, Tryd.ntmps6
    go_wp2_with fail
    refine (SZ0.out _ (Below.refl _ _)).mono ?_
    rintro r y0 ⟨rfl, hy0⟩
    go_wp2
    go_ret
    exact ⟨rfl, hy0⟩
  have hz0 := szV_ok big0 (by omega)
  have WP0 : Hid (∀ r ∈ rs0, (∀ n ∈ r.zs, (Lit.int .u8 n).wf = true) ∧ r.zs.length ≤ maxLen) := fun r hr => ⟨(A0.2 r hr).1.2.1, Nat.le_trans (A0.2 r hr).2.1 (A0.2 r hr).2.2⟩
  have hm2 : d2.length ≤ maxLen := by unfold maxLen; omega
  have WF2 : Hid (∀ n ∈ d2, (Lit.int .u8 n).wf = true) := A2.2.1
  have hm3 : d3.length ≤ maxLen := by unfold maxLen; omega
  have WF3 : Hid (∀ n ∈ d3, (Lit.int .i64 n).wf = true) := A3.2.1
  obtain ⟨X, hX⟩ : ∃ X, X = lkX rs0 a1 d2 d3 := ⟨_, rfl⟩
  obtain ⟨ls, hls⟩ : ∃ l, l = clA X := ⟨_, rfl⟩
  obtain ⟨ms, hms⟩ : ∃ l, l = clB X := ⟨_, rfl⟩
  obtain ⟨ff, hff⟩ : ∃ f, f = X.isSome := ⟨_, rfl⟩
  obtain ⟨cd, hcd⟩ : ∃ c, c = lkC rs0 a1 d2 d3 := ⟨_, rfl⟩
  have SP : Hid (∀ (p0 : Option Addr) (q0 : List Pc) (p2 : Option Addr) (p3 : Option Addr) (x : World), HasP x p0 q0 → q0.map Pc.zs = rs0.map Pc.zs → Has x .u8 p2 d2.length d2 → Has x .i64 p3 d3.length d3 → Calls Tryd.prog 21 #[Value.slice p0 rs0.length rs0.length, Value.int .i64 a1, Value.slice p2 d2.length d2.length, Value.slice p3 d3.length d3.length] x fun r w' => ∃ a1 c1 a2 c2, r = .returned (.agg #[.int .i64 cd, .bool ff, .slice a1 ls.length c1, .slice a2 ms.length c2]) ∧ OwnC w' x.heap.size a1 a2 c1 c2 ls ms ∧ Below x.heap.size x w') := by
    show ∀ (p0 : Option Addr) (q0 : List Pc) (p2 : Option Addr) (p3 : Option Addr) (x : World), HasP x p0 q0 → q0.map Pc.zs = rs0.map Pc.zs → Has x .u8 p2 d2.length d2 → Has x .i64 p3 d3.length d3 → Calls Tryd.prog 21 #[Value.slice p0 rs0.length rs0.length, Value.int .i64 a1, Value.slice p2 d2.length d2.length, Value.slice p3 d3.length d3.length] x fun r w' => ∃ a1 c1 a2 c2, r = .returned (.agg #[.int .i64 cd, .bool ff, .slice a1 ls.length c1, .slice a2 ms.length c2]) ∧ OwnC w' x.heap.size a1 a2 c1 c2 ls ms ∧ Below x.heap.size x w'
    rw [hls, hms, hff, hX, hcd]
    exact fun p0 q0 p2 p3 x h0 e0 h2 h3 => lk_of e0 (specLeafClash_any p0 p2 p3 _ _ _ q0 a1 d2 d3 x h0 h2 h3 (by rw [zs_len e0]; exact hz0.1) (zs_mem e0 (P := fun z => z.length ≤ 1048576) hz0.2.2.2.2) hs2 hs3 (Nat.le_refl _) hm3)
  have IM : Hid (∀ (p0 : Option Addr) (q0 : List Pc) (p2 : Option Addr) (p3 : Option Addr) (x : World), Tab x → HasP x p0 q0 → q0.map Pc.zs = rs0.map Pc.zs → Has x .u8 p2 d2.length d2 → Has x .i64 p3 d3.length d3 → Calls Tryd.prog 13 #[Value.slice p0 rs0.length rs0.length, Value.int .i64 a1, Value.slice p2 d2.length d2.length, Value.slice p3 d3.length d3.length] x fun r w' => ∃ a1 c1 a2 c2, r = .returned (.agg #[.int .i64 cd, .bool ff, .slice a1 ls.length c1, .slice a2 ms.length c2]) ∧ OwnC w' x.heap.size a1 a2 c1 c2 ls ms ∧ Below x.heap.size x w') := by
    show ∀ (p0 : Option Addr) (q0 : List Pc) (p2 : Option Addr) (p3 : Option Addr) (x : World), Tab x → HasP x p0 q0 → q0.map Pc.zs = rs0.map Pc.zs → Has x .u8 p2 d2.length d2 → Has x .i64 p3 d3.length d3 → Calls Tryd.prog 13 #[Value.slice p0 rs0.length rs0.length, Value.int .i64 a1, Value.slice p2 d2.length d2.length, Value.slice p3 d3.length d3.length] x fun r w' => ∃ a1 c1 a2 c2, r = .returned (.agg #[.int .i64 cd, .bool ff, .slice a1 ls.length c1, .slice a2 ms.length c2]) ∧ OwnC w' x.heap.size a1 a2 c1 c2 ls ms ∧ Below x.heap.size x w'
    rw [hls, hms, hff, hX, hcd]
    exact fun p0 q0 p2 p3 x t h0 e0 h2 h3 => lk_of e0 (implLeafClash_any p0 p2 p3 _ _ _ q0 a1 d2 d3 x t h0 h2 h3 (by rw [zs_len e0]; exact hz0.1) (zs_mem e0 (P := fun z => z.length ≤ 1048576) hz0.2.2.2.2) hs2 hs3 (Nat.le_refl _) hm3)
  have OK : ls.length ≤ 300 ∧ ms.length ≤ 300 ∧ (∀ n ∈ ls, (Lit.int .u8 n).wf = true) ∧ ∀ n ∈ ms, (Lit.int .u8 n).wf = true := by
    rw [hls, hms, hX]
    exact cl_ok (lkX_some rs0 a1 d2 d3 A2.2.1 (fun r hr => (A0.2 r hr).1.2.1))
  obtain ⟨ll, lm, WA0, WB0⟩ := OK
  have WA : Hid (_) := WA0
  have WB : Hid (_) := WB0
  clear hls hms hff hX hcd WA0 WB0
  have hge : (0 : Int) ≤ 1 + (ls.length : Int) + (ms.length : Int) := by omega
  have hne : ((1 + (ls.length : Int) + (ms.length : Int)) != (1 + (ls.length : Int) + (ms.length : Int))) = false := by simp
  have hk0 : (0 : Int) ≤ 1 + (sumZ rs0 : Int) + (d2.length : Int) + (d3.length : Int) := by omega
  obtain ⟨hp0a, hp0b, hp0c, hp0d, hp0e0⟩ := hz0
  have hp0e : Hid (∀ r ∈ rs0, r.zs.length ≤ 1048576) := hp0e0
  clear hp0e0
  have FA : Hid (∀ u : World, Below w.heap.size w u → HasP u a0 rs0 ∧ Has u .u8 a2 d2.length d2 ∧ Has u .i64 a3 d3.length d3) := fun u hu => ⟨A0.below hu (Nat.le_refl _), A2.below hu (Nat.le_refl _), A3.below hu (Nat.le_refl _)⟩
  have HT : Hid (Tab w) := hT
  clear hT
  clear A0 A2 A3
  go_enter Tryd.func6, Tryd.ntmps6
  go_wp2_with fail
  refine (SZ0.out _ (Below.refl _ _)).mono ?_
  rintro r u1 ⟨rfl, hb1⟩
  have B1 : Below w.heap.size w u1 := hb1
  go_wp2_with fail
  refine (toByteSS_has a0 cap0 rs0 _ ((FA.out _ B1).1) hp0a hp0e.out).mono ?_
  rintro r u2 ⟨q2, e2, rfl, X2, y2, hb2⟩
  have B2 : Below w.heap.size w u2 := B1.trans (hb2.mono B1.size)
  go_wp2_with fail
  refine (toBytes_has a2 cap2 d2 _ ((FA.out _ B2).2.1) hs2).mono ?_
  rintro r u3 ⟨rfl, hb3, X3, y3⟩
  have B3 : Below w.heap.size w u3 := B2.trans (hb3.mono B2.size)
  replace X2 := X2.below hb3 (Nat.le_refl _)
  go_wp2_with fail
  refine (toInts_has a3 cap3 d3 _ ((FA.out _ B3).2.2) hs3).mono ?_
  rintro r u4 ⟨rfl, hb4, X4, y4⟩
  have B4 : Below w.heap.size w u4 := B3.trans (hb4.mono B3.size)
  replace X2 := X2.below hb4 (Nat.le_refl _)
  replace X3 := X3.below hb4 (Nat.le_refl _)
  go_wp2_with fail
  refine (SP.out _ _ _ _ _ X2 e2 X3 X4).mono ?_
  rintro r u5 ⟨b5, i5, b5', i5', rfl, O5, hb5⟩
  have B5 : Below w.heap.size w u5 := B4.trans (hb5.mono B4.size)
  have zS := B5.size
  clear X2 hb2 X3 hb3 X4 hb4 hb5
  obtain ⟨U, hU⟩ : ∃ U, U = u5.alloc (.cells #[.int .i64 cd, .bool ff, .slice b5 ls.length i5, .slice b5' ms.length i5'] 31) := ⟨_, rfl⟩
  have sU : U.heap.size = u5.heap.size + 1 := by rw [hU]; simp
  have BU : Below w.heap.size w U := by rw [hU]; exact B5.alloc zS _
  have VU : Blk U u5.heap.size #[.int .i64 cd, .bool ff, .slice b5 ls.length i5, .slice b5' ms.length i5'] 31 := by rw [hU]; exact Blk.new _ _ _
  have RU : Has U .u8 b5 ls.length ls ∧ Has U .u8 b5' ms.length ms := by
    rw [hU]
    exact ⟨(has_of_own O5.one WA.out).alloc _, (has_of_own O5.two WB.out).alloc _⟩
  have FW : Hid (∀ u : World, Below U.heap.size U u → (HasP u a0 rs0 ∧ Has u .u8 a2 d2.length d2 ∧ Has u .i64 a3 d3.length d3) ∧ Blk u u5.heap.size #[.int .i64 cd, .bool ff, .slice b5 ls.length i5, .slice b5' ms.length i5'] 31 ∧ (Has u .u8 b5 ls.length ls ∧ Has u .u8 b5' ms.length ms) ∧ Below w.heap.size w u ∧ u5.heap.size < u.heap.size) := fun u h => ⟨FA.out u (BU.trans (h.mono BU.size)), VU.below h VU.lt, ⟨RU.1.below h (Nat.le_refl _), RU.2.below h (Nat.le_refl _)⟩, BU.trans (h.mono BU.size), by have := h.size; omega⟩
  clear VU RU O5 zS
  go_wp2_with fail
  simp only [← hU]
  clear hU sU
  refine (toByteSS_any a0 cap0 rs0 _ ((FW.out _ (Below.refl _ _)).1.1) hp0a hp0e.out).mono ?_
  rintro r u6 ⟨gs0, hg0, rfl, O6, hb6⟩
  have z6 : U.heap.size < u6.heap.size := (O6.out.lt _ rfl).2
  have C6 : Below U.heap.size U u6 := hb6
  have GS0 : Hid (∀ b ∈ gs0, b < u6.heap.size) := fun b hb => (O6.row_lt (by omega) b hb).2
  go_wp2_with fail
  refine (toBytes_any a2 d2.length cap2 d2 _ ((FW.out _ C6).1.2.1) hs2).mono ?_
  rintro r u7 ⟨rfl, O7, hb7⟩
  have z7 : u6.heap.size < u7.heap.size := own_lt O7 _ rfl
  have C7 : Below U.heap.size U u7 := C6.trans (hb7.mono C6.size)
  replace O6 := O6.below hb7
  go_wp2_with fail
  refine (toInts_any a3 d3.length cap3 d3 _ ((FW.out _ C7).1.2.2) hs3).mono ?_
  rintro r u8 ⟨rfl, O8, hb8⟩
  have z8 : u7.heap.size < u8.heap.size := own_lt O8 _ rfl
  have C8 : Below U.heap.size U u8 := C7.trans (hb8.mono C7.size)
  replace O6 := O6.below hb8
  replace O7 := own_below O7 hb8
  obtain ⟨qx0, ex0, _, Y6⟩ := O6.qs hg0 WP0.out
  have Y7 := has_of_own O7 WF2.out
  have Y8 := has_of_own O8 WF3.out
  go_wp2_with fail
  refine (IM.out _ _ _ _ _ (HT.out.below (FW.out _ C8).2.2.2.1 (Nat.le_refl _)) Y6 ex0 Y7 Y8).mono ?_
  rintro r u9 ⟨b9, i9, b9', i9', rfl, O9, hb9⟩
  have C9 : Below U.heap.size U u9 := C8.trans (hb9.mono C8.size)
  have zG := hb9.size
  replace O6 := O6.below hb9
  replace O7 := own_below O7 hb9
  replace O8 := own_below O8 hb9
  obtain ⟨W, hW⟩ : ∃ W, W = u9.alloc (.cells #[.int .i64 cd, .bool ff, .slice b9 ls.length i9, .slice b9' ms.length i9'] 31) := ⟨_, rfl⟩
  have sW : W.heap.size = u9.heap.size + 1 := by rw [hW]; simp
  have bW : Below u9.heap.size u9 W := by rw [hW]; exact (Below.refl _ _).alloc (Nat.le_refl _) _
  have VW : Blk W u9.heap.size #[.int .i64 cd, .bool ff, .slice b9 ls.length i9, .slice b9' ms.length i9'] 31 := by rw [hW]; exact Blk.new _ _ _
  have CW : Below U.heap.size U W := C9.trans (bW.mono C9.size)
  have FX0 : Hid (∀ u : World, Ex U.heap.size U.heap.size W u → OwnP u U.heap.size U.heap.size rs0 gs0) := fun u h => (O6.below bW).ex h (Nat.le_refl _)
  have FX2 : Hid (∀ u : World, Ex U.heap.size u6.heap.size W u → World.ownsRow u u6.heap.size 5 1 (.slice (some ⟨u6.heap.size, 0, none⟩) d2.length d2.length) d2.length (d2.map (.int .u8))) := fun u h => own_ex (own_below O7 bW) h (Nat.le_refl _)
  have FX3 : Hid (∀ u : World, Ex U.heap.size u7.heap.size W u → World.ownsRow u u7.heap.size 2 1 (.slice (some ⟨u7.heap.size, 0, none⟩) d3.length d3.length) d3.length (d3.map (.int .i64))) := fun u h => own_ex (own_below O8 bW) h (Nat.le_refl _)
  have OG : OwnC W u8.heap.size b9 b9' i9 i9' ls ms := O9.below bW
  have FG : Hid (∀ u : World, Ex U.heap.size u8.heap.size W u → OwnC u u8.heap.size b9 b9' i9 i9' ls ms) := fun u h => OG.ex h (Nat.le_refl _)
  have FV : Hid (∀ (hi : Nat) (u : World), hi ≤ u9.heap.size → Ex U.heap.size hi W u → Blk u u9.heap.size #[.int .i64 cd, .bool ff, .slice b9 ls.length i9, .slice b9' ms.length i9'] 31 ∧ u9.heap.size < u.heap.size) := fun hi u hh h => ⟨VW.ex h (.inr hh), by have := h.size; omega⟩
  have FE : Hid (∀ (hi : Nat) (u : World), Ex U.heap.size hi W u → Below U.heap.size U u) := fun hi u h => CW.trans (Ex.low h CW.size)
  have GB : Hid (∀ b, ((∃ x, b9 = some x ∧ b = x.block) ∨ ∃ x, b9' = some x ∧ b = x.block) → u8.heap.size ≤ b ∧ b < u9.heap.size) := O9.blocks
  have DW : Below W.heap.size W W := Below.refl _ _
  clear O6 O7 O8 O9 OG VW bW sW hb9
  have v0 := ((FW.out _ C9).2.1).cell 0
  have v1 := ((FW.out _ C9).2.1).cell 1
  have v2 := ((FW.out _ C9).2.1).cell 2
  have v3 := ((FW.out _ C9).2.1).cell 3
  simp at v0 v1 v2 v3
  have qv := (FW.out _ C9).2.2.2.2
  go_wp2_with fail
  simp only [← hW]
  refine (eqClashR_any cd ff b9 b9' b5 b5' i9 i9' i5 i5' ls ms _ (has_of_own (FG.out _ (Fr.refl _ _)).one WA.out) (has_of_own (FG.out _ (Fr.refl _ _)).two WB.out) ((FW.out _ CW).2.2.1).1 ((FW.out _ CW).2.2.1).2 (by omega) (by omega)).mono ?_
  rintro r u10 ⟨rfl, hb10⟩
  have E10 : Ex U.heap.size U.heap.size W u10 := Ex.on (Fr.refl _ _) hb10
  clear v0 v1 v2 v3 qv hb10 hW
  go_wp2_with fail
  refine (toByteSS_has a0 cap0 rs0 _ ((FW.out _ (FE.out _ _ E10)).1.1) hp0a hp0e.out).mono ?_
  rintro r u11 ⟨q11, e11, rfl, X11, y11, hb11⟩
  have E11 : Ex U.heap.size U.heap.size W u11 := Ex.on E10 hb11
  clear hb11
  obtain ⟨qy0, ey0, _, Y11⟩ := (FX0.out _ E11).qs hg0 WP0.out
  go_wp2_with fail
  refine (eqByteSS_two _ _ _ _ rs0 _ _ _ Y11 X11 ey0 e11 hp0a hp0e.out).mono ?_
  rintro r u12 ⟨rfl, hb12⟩
  have E12 : Ex U.heap.size U.heap.size W u12 := Ex.on E11 hb12
  clear hb12 E11 X11
  go_wp2_with fail
  refine (toBytes_has a2 cap2 d2 _ ((FW.out _ (FE.out _ _ E12)).1.2.1) hs2).mono ?_
  rintro r u13 ⟨rfl, hb13, X13, y13⟩
  have E13 : Ex U.heap.size U.heap.size W u13 := Ex.on E12 hb13
  clear hb13
  go_wp2_with fail
  refine (eqBytes_any _ _ _ _ d2 _ (has_of_own (FX2.out _ (Fr.mono E13 (fun b h => ⟨h.1, by omega⟩))) WF2.out) X13 hs2).mono ?_
  rintro r u14 ⟨rfl, hb14⟩
  have E14 : Ex U.heap.size U.heap.size W u14 := Ex.on E13 hb14
  clear hb14 E13 X13
  go_wp2_with fail
  refine (toInts_has a3 cap3 d3 _ ((FW.out _ (FE.out _ _ E14)).1.2.2) hs3).mono ?_
  rintro r u15 ⟨rfl, hb15, X15, y15⟩
  have E15 : Ex U.heap.size U.heap.size W u15 := Ex.on E14 hb15
  clear hb15
  go_wp2_with fail
  refine (eqInts_any _ _ _ _ d3 _ (has_of_own (FX3.out _ (Fr.mono E15 (fun b h => ⟨h.1, by omega⟩))) WF3.out) X15 hs3).mono ?_
  rintro r u16 ⟨rfl, hb16⟩
  have E16 : Ex U.heap.size U.heap.size W u16 := Ex.on E15 hb16
  clear hb16 E15 X15
  have O17 := FX0.out _ E16
  go_wp2_with fail
  refine (markByteSS_any _ _ rs0 gs0 (1) _ O17 hg0 hp0a hp0b (by omega) (by omega)).mono ?_
  rintro r u17 ⟨rfl, hm17, _⟩
  have E17 : Ex U.heap.size u6.heap.size W u17 := Ex.fr E16 hm17 (fun b hb => ⟨by have := (O17.row_lt (by omega) b hb).1; omega, GS0.out b hb⟩) (by omega)
  clear hm17 O17 E16
  go_wp2_with fail
  refine (markByteS_any _ _ _ (1 + (sumZ rs0 : Int)) d2 _ (FX2.out _ E17) (by omega) (by omega) (by omega)).mono ?_
  rintro r u18 ⟨rfl, _, hm18⟩
  have E18 : Ex U.heap.size u7.heap.size W u18 := Ex.mk E17 hm18 (fun ad had => by cases had; show _ ≤ u6.heap.size ∧ u6.heap.size < _; omega) (by omega)
  clear hm18 E17
  go_wp2_with fail
  refine (markInt64S_any _ _ _ (1 + (sumZ rs0 : Int) + (d2.length : Int)) d3 _ (FX3.out _ E18) (by omega) (by omega) (by omega)).mono ?_
  rintro r u19 ⟨rfl, _, hm19⟩
  have E19 : Ex U.heap.size u8.heap.size W u19 := Ex.mk E18 hm19 (fun ad had => by cases had; show _ ≤ u7.heap.size ∧ u7.heap.size < _; omega) (by omega)
  clear hm19 E18
  have vf := FV.out _ _ (by omega) E19
  have fw := FW.out _ (FE.out _ _ E19)
  have t0 := (vf.1).cell 0
  have t1 := (vf.1).cell 1
  have t2 := (vf.1).cell 2
  have t3 := (vf.1).cell 3
  simp at t0 t1 t2 t3
  have v0 := (fw.2.1).cell 0
  have v1 := (fw.2.1).cell 1
  have v2 := (fw.2.1).cell 2
  have v3 := (fw.2.1).cell 3
  simp at v0 v1 v2 v3
  go_wp2_with fail
  refine (eqClashR_any cd ff _ _ _ _ _ _ _ _ ls ms _ (has_of_own (FG.out _ E19).one WA.out) (has_of_own (FG.out _ E19).two WB.out) (fw.2.2.1).1 (fw.2.2.1).2 (by omega) (by omega)).mono ?_
  rintro r u20 ⟨rfl, hb20⟩
  have E20 : Ex U.heap.size u8.heap.size W u20 := Ex.on E19 hb20
  clear t0 t1 t2 t3 v0 v1 v2 v3 vf fw hb20 E19
  have vf := FV.out _ _ (by omega) E20
  have t0 := (vf.1).cell 0
  have t1 := (vf.1).cell 1
  have t2 := (vf.1).cell 2
  have t3 := (vf.1).cell 3
  simp at t0 t1 t2 t3
  go_wp2_with fail
  refine (markClashR_any cd ff _ _ _ _ _ ls ms 1 _ (FG.out _ E20) (by omega) (by omega) (by omega) (by omega) (by omega)).mono ?_
  rintro r u21 ⟨rfl, OM, hm21⟩
  have E21 : Ex U.heap.size u9.heap.size W u21 := Ex.fr E20 hm21 (fun b hb => by have := GB.out b hb; omega) (by omega)
  have FM : Hid (∀ u : World, Below u21.heap.size u21 u → Has u .u8 b9 (markL 1 ls.length).length (markL 1 ls.length) ∧ Has u .u8 b9' (markL (1 + ls.length) ms.length).length (markL (1 + ls.length) ms.length)) := by
    intro u h
    have h1 := OM.one
    have h2 := OM.two
    exact ⟨(has_of_own h1 (markL_wf _ _)).below h (Nat.le_refl _), (has_of_own h2 (markL_wf _ _)).below h (Nat.le_refl _)⟩
  have D21 : Below u21.heap.size u21 u21 := Below.refl _ _
  clear hm21 OM vf t0 t1 t2 t3 E20
  have vf := FV.out _ _ (Nat.le_refl _) E21
  have t0 := (vf.1).cell 0
  have t1 := (vf.1).cell 1
  have t2 := (vf.1).cell 2
  have t3 := (vf.1).cell 3
  simp at t0 t1 t2 t3
  go_wp2_with fail
  refine (heldClashR_any cd ff _ _ _ _ ls.length ms.length 1 _ (FM.out _ D21).1 (FM.out _ D21).2 (by omega) (by omega) (by omega) (by omega)).mono ?_
  rintro r u22 ⟨rfl, hb22⟩
  have E22 : Ex U.heap.size u9.heap.size W u22 := Ex.on E21 hb22
  have D22 : Below u21.heap.size u21 u22 := D21.trans (hb22.mono D21.size)
  clear vf t0 t1 t2 t3 hb22 E21 D21
  go_wp2_with fail
  refine (toByteSS_has a0 cap0 rs0 _ ((FW.out _ (FE.out _ _ E22)).1.1) hp0a hp0e.out).mono ?_
  rintro r u23 ⟨q23, e23, rfl, X23, y23, hb23⟩
  have E23 : Ex U.heap.size u9.heap.size W u23 := Ex.on E22 hb23
  have D23 : Below u21.heap.size u21 u23 := D22.trans (hb23.mono D22.size)
  clear hb23 E22 D22
  go_wp2_with fail
  refine (toBytes_has a2 cap2 d2 _ ((FW.out _ (FE.out _ _ E23)).1.2.1) hs2).mono ?_
  rintro r u24 ⟨rfl, hb24, X24, y24⟩
  have E24 : Ex U.heap.size u9.heap.size W u24 := Ex.on E23 hb24
  have D24 : Below u21.heap.size u21 u24 := D23.trans (hb24.mono D23.size)
  replace X23 := X23.below hb24 (Nat.le_refl _)
  clear hb24 E23 D23
  go_wp2_with fail
  refine (toInts_has a3 cap3 d3 _ ((FW.out _ (FE.out _ _ E24)).1.2.2) hs3).mono ?_
  rintro r u25 ⟨rfl, hb25, X25, y25⟩
  have E25 : Ex U.heap.size u9.heap.size W u25 := Ex.on E24 hb25
  have D25 : Below u21.heap.size u21 u25 := D24.trans (hb25.mono D24.size)
  replace X23 := X23.below hb25 (Nat.le_refl _)
  replace X24 := X24.below hb25 (Nat.le_refl _)
  clear hb25 E24 D24
  go_wp2_with fail
  refine (IM.out _ _ _ _ _ (HT.out.below (FW.out _ (FE.out _ _ E25)).2.2.2.1 (Nat.le_refl _)) X23 e23 X24 X25).mono ?_
  rintro r u26 ⟨b26, i26, b26', i26', rfl, O26, hb26⟩
  have E26 : Ex U.heap.size u9.heap.size W u26 := Ex.on E25 hb26
  have D26 : Below u21.heap.size u21 u26 := D25.trans (hb26.mono D25.size)
  clear X23 X24 X25 hb26 E25 D25
  have fw := FW.out _ (FE.out _ _ E26)
  have qf := (FV.out _ _ (Nat.le_refl _) E26).2
  have v0 := (fw.2.1).cell 0
  have v1 := (fw.2.1).cell 1
  have v2 := (fw.2.1).cell 2
  have v3 := (fw.2.1).cell 3
  simp at v0 v1 v2 v3
  have qv := fw.2.2.2.2
  go_wp2_with fail
  refine (eqClashR_any cd ff _ _ _ _ _ _ _ _ ls ms _ ((has_of_own O26.one WA.out).alloc _) ((has_of_own O26.two WB.out).alloc _) (fw.2.2.1.1.alloc _) (fw.2.2.1.2.alloc _) (by omega) (by omega)).mono ?_
  rintro r u27 ⟨rfl, hb27⟩
  have bb := ((Below.refl u26.heap.size u26).alloc (Nat.le_refl _) (.cells #[.int .i64 cd, .bool ff, .slice b26 ls.length i26, .slice b26' ms.length i26'] 31)).trans (hb27.mono (by simp))
  have E27 : Ex U.heap.size u9.heap.size W u27 := Ex.on E26 bb
  have D27 : Below u21.heap.size u21 u27 := D26.trans (bb.mono D26.size)
  clear fw qf qv v0 v1 v2 v3 hb27 bb O26 E26 D26
  have vf := FV.out _ _ (Nat.le_refl _) E27
  have t0 := (vf.1).cell 0
  have t1 := (vf.1).cell 1
  have t2 := (vf.1).cell 2
  have t3 := (vf.1).cell 3
  simp at t0 t1 t2 t3
  go_wp2_with fail
  refine (heldClashR_any cd ff _ _ _ _ ls.length ms.length 1 _ (FM.out _ D27).1 (FM.out _ D27).2 (by omega) (by omega) (by omega) (by omega)).mono ?_
  rintro r u28 ⟨rfl, hb28⟩
  have E28 : Ex U.heap.size u9.heap.size W u28 := Ex.on E27 hb28
  have D28 : Below u21.heap.size u21 u28 := D27.trans (hb28.mono D27.size)
  clear vf t0 t1 t2 t3 hb28 E27 D27
  go_wp2
  go_ret
  exact ⟨rfl, (FW.out _ (FE.out _ _ E28)).2.2.2.1⟩

set_option maxRecDepth 100000 in
theorem fnExactLeafClash_lifted (os : Os) (started : os.Started) (H : Type) (enc : TypeId × Value → H) :
    ReturnsInHanded {} Tryd.checked os 6 .any (fun w args => (Rows.fnExactLeafClashSpec.pre enc Tryd.prog Tryd.f6 [] false w args ∧ laidMetH Tryd.prog [("loop.example/g00565/impl.pieceStarts", Rows.laid_loop_example_g00565_impl_pieceStarts)] w) ∧ sizedMet enc Tryd.prog Tryd.f6 (OpenSpec.ofChange Rows.fnExactLeafClashSpec) false w args) (Rows.fnExactLeafClashSpec.post enc Tryd.prog Tryd.f6 false true false false) := by
  refine returnsInHanded_of_change_and (C := Tryd.checked) (X := fun w _ => laidMetH Tryd.prog [("loop.example/g00565/impl.pieceStarts", Rows.laid_loop_example_g00565_impl_pieceStarts)] w) (fun _ _ _ hh h => h.of_heap hh) own started (by kernel_rfl) Tryd.func6
    (ChangeSpec.witness_shaped (enc := enc) (C := Tryd.checked) (os := os) (X := fun w _ => laidMetH Tryd.prog [("loop.example/g00565/impl.pieceStarts", Rows.laid_loop_example_g00565_impl_pieceStarts)] w) false (World.doorLaid Tryd.prog 400 os) #[.slice none 0 0, .int .i64 0, .slice none 0 0, .slice none 0 0] 8 rfl (World.shaped_of_RefB (by kernel_rfl) (by kernel_rfl)) (by kernel_rfl) (by kernel_rfl) (by kernel_rfl) (door_met os _)) ?_
  intro W base args ds gs before hval0 hW _ _ hL _
  have hval : ∀ (j : Nat) t v, Tryd.f6.params[j]? = some t → args[j]? = some v → Value.okWide Tryd.prog W .any base t v := hval0
  have hW' := hW
  obtain ⟨p, q, hA0, hV, rfl, hfz, hnd⟩ := hW
  have hA : DataW.TrodAll enc Tryd.prog W 0 (fun _ => true) true Tryd.f6.params.toList args.toList ds p := hA0
  rw [Tryd.params6] at hA hval
  obtain ⟨v0, vs0, d0, ds0, p0, q0, hargs, rfl, rfl, h0, r0⟩ := trodAll_cons hA
  obtain ⟨v1, vs1, d1, ds1, p1, q1, rfl, rfl, rfl, h1, r1⟩ := trodAll_cons r0
  obtain ⟨v2, vs2, d2, ds2, p2, q2, rfl, rfl, rfl, h2, r2⟩ := trodAll_cons r1
  obtain ⟨v3, vs3, d3, ds3, p3, q3, rfl, rfl, rfl, h3, r3⟩ := trodAll_cons r2
  obtain ⟨rfl, rfl, rfl⟩ := trodAll_nil r3
  obtain rfl : args = #[v0, v1, v2, v3] := by cases args; simp_all
  obtain ⟨g, rfl⟩ : ∃ g, gs = [g] := by obtain ⟨_, _, _, _, d, _, e, _⟩ := trodVars_one hV; exact ⟨d, e⟩
  have g0 := h0
  have lt0 : ∀ x ∈ p0, x.block < W.heap.size := by obtain ⟨m, hm⟩ := g0; exact DataW.trod_lt m _ _ _ hm
  have g1 := h1
  have lt1 : ∀ x ∈ p1, x.block < W.heap.size := by obtain ⟨m, hm⟩ := g1; exact DataW.trod_lt m _ _ _ hm
  have g2 := h2
  have lt2 : ∀ x ∈ p2, x.block < W.heap.size := by obtain ⟨m, hm⟩ := g2; exact DataW.trod_lt m _ _ _ hm
  have g3 := h3
  have lt3 : ∀ x ∈ p3, x.block < W.heap.size := by obtain ⟨m, hm⟩ := g3; exact DataW.trod_lt m _ _ _ hm
  obtain ⟨a0, len0, cap0, rfl⟩ := okWide_slice Tryd.underlying24 (hval 0 24 v0 rfl rfl)
  obtain ⟨rs0, w0⟩ : ∃ rs, IsPcs W a0 len0 cap0 rs := by
    obtain ⟨fuel, hf⟩ := h0
    obtain ⟨a', l', c', rs, e, h⟩ := pcs_of_trod (v := .slice a0 len0 cap0) Tryd.underlying24 Tryd.underlying22 Tryd.underlying5 (by kernel_rfl) (by kernel_rfl) (by simpa [Value.cells] using hf)
    simp at e
    obtain ⟨rfl, rfl, rfl⟩ := e
    exact ⟨rs, h⟩
  obtain ⟨a1, rfl, rfl, rfl, w1⟩ := open_int Tryd.underlying2 (hval 1 2 v1 rfl rfl) h1
  obtain ⟨a2, len2, cap2, rfl⟩ := okWide_slice Tryd.underlying22 (hval 2 22 v2 rfl rfl)
  obtain ⟨z2, w2⟩ : ∃ zs, IsRow .u8 W a2 len2 cap2 zs := by
    obtain ⟨fuel, hf⟩ := h2
    rcases open_ints Tryd.underlying22 Tryd.underlying5 (by kernel_rfl) hf with ⟨hcs, _⟩ | ⟨x, l, c, zs, hcs, _, hl, hm, hz, _, hcell, hwz⟩
    · simp [Value.cells] at hcs
      obtain ⟨rfl, rfl, rfl⟩ := hcs
      exact ⟨[], .inl ⟨rfl, rfl, rfl, rfl⟩⟩
    · simp [Value.cells] at hcs
      obtain ⟨rfl, rfl, rfl⟩ := hcs
      exact ⟨zs, .inr ⟨_, rfl, hl, hm, by simpa using hz, hcell, hwz⟩⟩
  obtain ⟨a3, len3, cap3, rfl⟩ := okWide_slice Tryd.underlying25 (hval 3 25 v3 rfl rfl)
  obtain ⟨z3, w3⟩ : ∃ zs, IsRow .i64 W a3 len3 cap3 zs := by
    obtain ⟨fuel, hf⟩ := h3
    rcases open_ints Tryd.underlying25 Tryd.underlying2 (by kernel_rfl) hf with ⟨hcs, _⟩ | ⟨x, l, c, zs, hcs, _, hl, hm, hz, _, hcell, hwz⟩
    · simp [Value.cells] at hcs
      obtain ⟨rfl, rfl, rfl⟩ := hcs
      exact ⟨[], .inl ⟨rfl, rfl, rfl, rfl⟩⟩
    · simp [Value.cells] at hcs
      obtain ⟨rfl, rfl, rfl⟩ := hcs
      exact ⟨zs, .inr ⟨_, rfl, hl, hm, by simpa using hz, hcell, hwz⟩⟩
  clear hA0 hval0
  refine (fnExactLeafClash_walk W (tab_of_laid hL) a0 len0 cap0 rs0 w0 a1 w1 a2 len2 cap2 z2 w2 a3 len3 cap3 z3 w3).mono fun e W' ⟨he, bel⟩ => ?_
  subst he
  exact ⟨_, rfl, _, _, _, [], _, _, hW', trodAll_mk1 (shut_bool Tryd.underlying4 _), (trodAll_cons_mk (Below.trod laidOut (by kernel_rfl) (of_decide_eq_true (by kernel_rfl)) g0 bel lt0) (trodAll_cons_mk (Below.trod laidOut (by kernel_rfl) (of_decide_eq_true (by kernel_rfl)) g1 bel lt1) (trodAll_cons_mk (Below.trod laidOut (by kernel_rfl) (of_decide_eq_true (by kernel_rfl)) g2 bel lt2) (trodAll_cons_mk (Below.trod laidOut (by kernel_rfl) (of_decide_eq_true (by kernel_rfl)) g3 bel lt3) trodAll_mk0)))), Below.trodVars laidOut bel (by kernel_rfl) hV, bel.frame _, fun h => by cases h⟩

theorem fnExactLeafClash_row : Rows.FnExactLeafClashSaid :=
  OpenClaim.holds_of_wide 6 Tryd.f6 rfl rfl rfl rfl rfl rfl rfl ⟨rfl, rfl, rfl, rfl, rfl⟩ rfl rfl rfl rfl rfl (by kernel_rfl) Tryd.func6 (by kernel_rfl)
    (of_decide_eq_true (by kernel_rfl)) (by unfold Func.isWrapper; first | (rw [if_pos (by decide +kernel)]; kernel_rfl) | (rw [if_neg (by decide +kernel)]; exact ⟨rfl, rfl⟩))
    (fun os started H enc _ => fnExactLeafClash_lifted os started H enc)

theorem fnExactLeafClash_holds : Rows.FnExactLeafClashCardSaid :=
  Claim7.holds_tied_plain_at .later [] [.data] true Rows.fnExactLeafClashCard.stood.harness Rows.fnExactLeafClashCard.stood.looks
    fnExactLeafClash_row (fun _ h => by cases h) (by kernel_rfl) (fun _ h => by cases h) fnExactLeafClash_row_tie rfl ⟨rfl, rfl⟩ (by kernel_rfl) rfl
    (fun f fn hf hfn => by
      obtain rfl : f = 6 := Option.some.inj ((show Tryd.prog.funcNamed "loop.example/g00565/laws.FnExactLeafClash" = some 6 by kernel_rfl).symm.trans hf) |>.symm
      obtain rfl : fn = Tryd.f6 := (Option.some.inj (Tryd.func6.symm.trans hfn)).symm
      exact ⟨by kernel_rfl, fun j t ht => by
        rw [Tryd.params6] at ht
        have h3 : t = 22 ∨ t = 2 ∨ t = 25 ∨ t = 24 := by
          match j, ht with
          | 0, ht => simp at ht; simp [← ht]
          | 1, ht => simp at ht; simp [← ht]
          | 2, ht => simp at ht; simp [← ht]
          | 3, ht => simp at ht; simp [← ht]
          | _ + 4, ht => simp at ht
        rcases h3 with rfl | rfl | rfl | rfl
        all_goals exact (show Tryd.prog.wantsStandIn _ = false by kernel_rfl)⟩)
    (by kernel_rfl)
#print axioms fnExactLeafClash_holds
end Go.Proofs.YtklhkhlmhddmcaaDoor
