/- At every two slices of slices of bytes the program's PieceClash answers as the specification's model of it, in memory of its own, and leaves them as they were; the table that begins pieces starts as the program's text lays it. -/
import Derived.Test.YtklhkhlmhddmcaaDoorIPkA
import Derived.Test.YtklhkhlmhddmcaaDoorDoor
import Derived.Test.YtklhkhlmhddmcaaDoorDoor
namespace Go.Proofs.YtklhkhlmhddmcaaDoor
open Go.ChangeShapes Go.WideShapes Go.ChangeAt Go.RowKit
set_option linter.unusedVariables false
set_option linter.unusedSimpArgs false

set_option maxRecDepth 100000 in
set_option maxHeartbeats 16000000 in
theorem fnExactPieceClash_walk (w : World) (hT : Tab w) (a0 : Option Addr) (len0 cap0 : Nat) (rs0 : List Pc) (w0 : IsPcs w a0 len0 cap0 rs0) (a1 : Option Addr) (len1 cap1 : Nat) (rs1 : List Pc) (w1 : IsPcs w a1 len1 cap1 rs1) :
    Calls Tryd.prog 10 #[.slice a0 len0 cap0, .slice a1 len1 cap1] w fun e w' => e = .returned (.bool true) ∧ Below w.heap.size w w' := by
  obtain ⟨hlc0, hcm0, rfl, A0⟩ := w0
  obtain ⟨hlc1, hcm1, rfl, A1⟩ := w1
  have hlm0 : rs0.length ≤ maxLen := Nat.le_trans hlc0 hcm0
  have SZ0 : Hid (∀ u : World, Below w.heap.size w u → Calls Tryd.prog 34 #[.slice a0 rs0.length cap0, .int .i64 (1048576)] u fun r w' => r = .returned (.int .i64 (szV (1048576) rs0)) ∧ Below u.heap.size u w') := fun u hu => szByteSS_any a0 cap0 rs0 (1048576) u (A0.below hu (Nat.le_refl _)) hlm0 (by omega) (by omega)
  by_cases big0 : szV (1048576) rs0 < 0
  case pos =>
    go_enter Tryd.func10, Tryd.ntmps10
    go_wp2_with fail
    refine (SZ0.out _ (Below.refl _ _)).mono ?_
    rintro r y0 ⟨rfl, hy0⟩
    go_wp2
    go_ret
    exact ⟨rfl, hy0⟩
  have hz0 := szV_ok big0 (by omega)
  have WP0 : Hid (∀ r ∈ rs0, (∀ n ∈ r.zs, (Lit.int .u8 n).wf = true) ∧ r.zs.length ≤ maxLen) := fun r hr => ⟨(A0.2 r hr).1.2.1, Nat.le_trans (A0.2 r hr).2.1 (A0.2 r hr).2.2⟩
  have hlm1 : rs1.length ≤ maxLen := Nat.le_trans hlc1 hcm1
  have SZ1 : Hid (∀ u : World, Below w.heap.size w u → Calls Tryd.prog 34 #[.slice a1 rs1.length cap1, .int .i64 (szV (1048576) rs0)] u fun r w' => r = .returned (.int .i64 (szV (szV (1048576) rs0) rs1)) ∧ Below u.heap.size u w') := fun u hu => szByteSS_any a1 cap1 rs1 (szV (1048576) rs0) u (A1.below hu (Nat.le_refl _)) hlm1 (hz0.2.2.2.1) (hz0.2.2.1)
  by_cases big1 : szV (szV (1048576) rs0) rs1 < 0
  case pos =>
    go_enter Tryd.func10, Tryd.ntmps10
    go_wp2_with fail
    refine (SZ0.out _ (Below.refl _ _)).mono ?_
    rintro r y0 ⟨rfl, hy0⟩
    have hb1 : Below w.heap.size w y0 := hy0
    go_wp2_with fail
    refine (SZ1.out _ hb1).mono ?_
    rintro r y1 ⟨rfl, hy1⟩
    go_wp2
    go_ret
    exact ⟨rfl, hb1.trans (hy1.mono hb1.size)⟩
  have hz1 := szV_ok big1 (hz0.2.2.1)
  have WP1 : Hid (∀ r ∈ rs1, (∀ n ∈ r.zs, (Lit.int .u8 n).wf = true) ∧ r.zs.length ≤ maxLen) := fun r hr => ⟨(A1.2 r hr).1.2.1, Nat.le_trans (A1.2 r hr).2.1 (A1.2 r hr).2.2⟩
  have hlt0 := szV_lt big0 (by omega)
  obtain ⟨X, hX⟩ : ∃ X, X = pkX rs0 rs1 := ⟨_, rfl⟩
  obtain ⟨ls, hls⟩ : ∃ l, l = clA X := ⟨_, rfl⟩
  obtain ⟨ms, hms⟩ : ∃ l, l = clB X := ⟨_, rfl⟩
  obtain ⟨ff, hff⟩ : ∃ f, f = X.isSome := ⟨_, rfl⟩
  obtain ⟨cd, hcd⟩ : ∃ c, c = pkC rs0 rs1 := ⟨_, rfl⟩
  have SP : Hid (∀ (p0 : Option Addr) (q0 : List Pc) (p1 : Option Addr) (q1 : List Pc) (x : World), HasP x p0 q0 → q0.map Pc.zs = rs0.map Pc.zs → HasP x p1 q1 → q1.map Pc.zs = rs1.map Pc.zs → Calls Tryd.prog 33 #[Value.slice p0 rs0.length rs0.length, Value.slice p1 rs1.length rs1.length] x fun r w' => ∃ a1 c1 a2 c2, r = .returned (.agg #[.int .i64 cd, .bool ff, .slice a1 ls.length c1, .slice a2 ms.length c2]) ∧ OwnC w' x.heap.size a1 a2 c1 c2 ls ms ∧ Below x.heap.size x w') := by
    show ∀ (p0 : Option Addr) (q0 : List Pc) (p1 : Option Addr) (q1 : List Pc) (x : World), HasP x p0 q0 → q0.map Pc.zs = rs0.map Pc.zs → HasP x p1 q1 → q1.map Pc.zs = rs1.map Pc.zs → Calls Tryd.prog 33 #[Value.slice p0 rs0.length rs0.length, Value.slice p1 rs1.length rs1.length] x fun r w' => ∃ a1 c1 a2 c2, r = .returned (.agg #[.int .i64 cd, .bool ff, .slice a1 ls.length c1, .slice a2 ms.length c2]) ∧ OwnC w' x.heap.size a1 a2 c1 c2 ls ms ∧ Below x.heap.size x w'
    rw [hls, hms, hff, hX, hcd]
    exact fun p0 q0 p1 q1 x h0 e0 h1 e1 => pk_of e0 e1 (specPieceClash_any p0 p1 _ _ q0 q1 x h0 h1 (by rw [zs_len e0]; exact hz0.1) (by rw [zs_len e1]; exact hz1.1) (zs_mem e0 (P := fun z => z.length ≤ 1048576) hz0.2.2.2.2) (zs_mem e1 (P := fun z => z.length ≤ 1048576) hz1.2.2.2.2))
  have IM : Hid (∀ (p0 : Option Addr) (q0 : List Pc) (p1 : Option Addr) (q1 : List Pc) (x : World), Tab x → HasP x p0 q0 → q0.map Pc.zs = rs0.map Pc.zs → HasP x p1 q1 → q1.map Pc.zs = rs1.map Pc.zs → Calls Tryd.prog 29 #[Value.slice p0 rs0.length rs0.length, Value.slice p1 rs1.length rs1.length] x fun r w' => ∃ a1 c1 a2 c2, r = .returned (.agg #[.int .i64 cd, .bool ff, .slice a1 ls.length c1, .slice a2 ms.length c2]) ∧ OwnC w' x.heap.size a1 a2 c1 c2 ls ms ∧ Below x.heap.size x w') := by
    show ∀ (p0 : Option Addr) (q0 : List Pc) (p1 : Option Addr) (q1 : List Pc) (x : World), Tab x → HasP x p0 q0 → q0.map Pc.zs = rs0.map Pc.zs → HasP x p1 q1 → q1.map Pc.zs = rs1.map Pc.zs → Calls Tryd.prog 29 #[Value.slice p0 rs0.length rs0.length, Value.slice p1 rs1.length rs1.length] x fun r w' => ∃ a1 c1 a2 c2, r = .returned (.agg #[.int .i64 cd, .bool ff, .slice a1 ls.length c1, .slice a2 ms.length c2]) ∧ OwnC w' x.heap.size a1 a2 c1 c2 ls ms ∧ Below x.heap.size x w'
    rw [hls, hms, hff, hX, hcd]
    exact fun p0 q0 p1 q1 x t h0 e0 h1 e1 => pk_of e0 e1 (implPieceClash_any p0 p1 _ _ q0 q1 x t h0 h1 (by rw [zs_len e0]; exact hz0.1) (by rw [zs_len e1]; exact hz1.1) (zs_mem e0 (P := fun z => z.length ≤ 1048576) hz0.2.2.2.2) (zs_mem e1 (P := fun z => z.length ≤ 1048576) hz1.2.2.2.2))
  have OK : ls.length ≤ 300 ∧ ms.length ≤ 300 ∧ (∀ n ∈ ls, (Lit.int .u8 n).wf = true) ∧ ∀ n ∈ ms, (Lit.int .u8 n).wf = true := by
    rw [hls, hms, hX]
    exact cl_ok (pkX_some rs0 rs1 (fun r hr => (A0.2 r hr).1.2.1) (fun r hr => (A1.2 r hr).1.2.1))
  obtain ⟨ll, lm, WA0, WB0⟩ := OK
  have WA : Hid (_) := WA0
  have WB : Hid (_) := WB0
  clear hls hms hff hX hcd WA0 WB0
  have hge : (0 : Int) ≤ 1 + (ls.length : Int) + (ms.length : Int) := by omega
  have hne : ((1 + (ls.length : Int) + (ms.length : Int)) != (1 + (ls.length : Int) + (ms.length : Int))) = false := by simp
  have hk0 : (0 : Int) ≤ 1 + (sumZ rs0 : Int) + (sumZ rs1 : Int) := by omega
  obtain ⟨hp0a, hp0b, hp0c, hp0d, hp0e0⟩ := hz0
  have hp0e : Hid (∀ r ∈ rs0, r.zs.length ≤ 1048576) := hp0e0
  clear hp0e0
  obtain ⟨hp1a, hp1b, hp1c, hp1d, hp1e0⟩ := hz1
  have hp1e : Hid (∀ r ∈ rs1, r.zs.length ≤ 1048576) := hp1e0
  clear hp1e0
  have FA : Hid (∀ u : World, Below w.heap.size w u → HasP u a0 rs0 ∧ HasP u a1 rs1) := fun u hu => ⟨A0.below hu (Nat.le_refl _), A1.below hu (Nat.le_refl _)⟩
  have HT : Hid (Tab w) := hT
  clear hT
  clear A0 A1
  go_enter Tryd.func10, Tryd.ntmps10
  go_wp2_with fail
  refine (SZ0.out _ (Below.refl _ _)).mono ?_
  rintro r u1 ⟨rfl, hb1⟩
  have B1 : Below w.heap.size w u1 := hb1
  go_wp2_with fail
  refine (SZ1.out _ B1).mono ?_
  rintro r u2 ⟨rfl, hb2⟩
  have B2 : Below w.heap.size w u2 := B1.trans (hb2.mono B1.size)
  go_wp2_with fail
  refine (toByteSS_has a0 cap0 rs0 _ ((FA.out _ B2).1) hp0a hp0e.out).mono ?_
  rintro r u3 ⟨q3, e3, rfl, X3, y3, hb3⟩
  have B3 : Below w.heap.size w u3 := B2.trans (hb3.mono B2.size)
  go_wp2_with fail
  refine (toByteSS_has a1 cap1 rs1 _ ((FA.out _ B3).2) hp1a hp1e.out).mono ?_
  rintro r u4 ⟨q4, e4, rfl, X4, y4, hb4⟩
  have B4 : Below w.heap.size w u4 := B3.trans (hb4.mono B3.size)
  replace X3 := X3.below hb4 (Nat.le_refl _)
  go_wp2_with fail
  refine (SP.out _ _ _ _ _ X3 e3 X4 e4).mono ?_
  rintro r u5 ⟨b5, i5, b5', i5', rfl, O5, hb5⟩
  have B5 : Below w.heap.size w u5 := B4.trans (hb5.mono B4.size)
  have zS := B5.size
  clear X3 hb3 X4 hb4 hb5
  obtain ⟨U, hU⟩ : ∃ U, U = u5.alloc (.cells #[.int .i64 cd, .bool ff, .slice b5 ls.length i5, .slice b5' ms.length i5'] 31) := ⟨_, rfl⟩
  have sU : U.heap.size = u5.heap.size + 1 := by rw [hU]; simp
  have BU : Below w.heap.size w U := by rw [hU]; exact B5.alloc zS _
  have VU : Blk U u5.heap.size #[.int .i64 cd, .bool ff, .slice b5 ls.length i5, .slice b5' ms.length i5'] 31 := by rw [hU]; exact Blk.new _ _ _
  have RU : Has U .u8 b5 ls.length ls ∧ Has U .u8 b5' ms.length ms := by
    rw [hU]
    exact ⟨(has_of_own O5.one WA.out).alloc _, (has_of_own O5.two WB.out).alloc _⟩
  have FW : Hid (∀ u : World, Below U.heap.size U u → (HasP u a0 rs0 ∧ HasP u a1 rs1) ∧ Blk u u5.heap.size #[.int .i64 cd, .bool ff, .slice b5 ls.length i5, .slice b5' ms.length i5'] 31 ∧ (Has u .u8 b5 ls.length ls ∧ Has u .u8 b5' ms.length ms) ∧ Below w.heap.size w u ∧ u5.heap.size < u.heap.size) := fun u h => ⟨FA.out u (BU.trans (h.mono BU.size)), VU.below h VU.lt, ⟨RU.1.below h (Nat.le_refl _), RU.2.below h (Nat.le_refl _)⟩, BU.trans (h.mono BU.size), by have := h.size; omega⟩
  clear VU RU O5 zS
  go_wp2_with fail
  simp only [← hU]
  clear hU sU
  refine (toByteSS_any a0 cap0 rs0 _ ((FW.out _ (Below.refl _ _)).1.1) hp0a hp0e.out).mono ?_
  rintro r u6 ⟨gs0, hg0, rfl, O6, hb6⟩
  have z6 : U.heap.size < u6.heap.size := (O6.out.lt _ rfl).2
  have C6 : Below U.heap.size U u6 := hb6
  have GS0 : Hid (∀ b ∈ gs0, b < u6.heap.size) := fun b hb => (O6.row_lt (by omega) b hb).2
  go_wp2_with fail
  refine (toByteSS_any a1 cap1 rs1 _ ((FW.out _ C6).1.2) hp1a hp1e.out).mono ?_
  rintro r u7 ⟨gs1, hg1, rfl, O7, hb7⟩
  have z7 : u6.heap.size < u7.heap.size := (O7.out.lt _ rfl).2
  have C7 : Below U.heap.size U u7 := C6.trans (hb7.mono C6.size)
  have GS1 : Hid (∀ b ∈ gs1, b < u7.heap.size) := fun b hb => (O7.row_lt (by omega) b hb).2
  replace O6 := O6.below hb7
  obtain ⟨qx0, ex0, _, Y6⟩ := O6.qs hg0 WP0.out
  obtain ⟨qx1, ex1, _, Y7⟩ := O7.qs hg1 WP1.out
  go_wp2_with fail
  refine (IM.out _ _ _ _ _ (HT.out.below (FW.out _ C7).2.2.2.1 (Nat.le_refl _)) Y6 ex0 Y7 ex1).mono ?_
  rintro r u8 ⟨b8, i8, b8', i8', rfl, O8, hb8⟩
  have C8 : Below U.heap.size U u8 := C7.trans (hb8.mono C7.size)
  have zG := hb8.size
  replace O6 := O6.below hb8
  replace O7 := O7.below hb8
  obtain ⟨W, hW⟩ : ∃ W, W = u8.alloc (.cells #[.int .i64 cd, .bool ff, .slice b8 ls.length i8, .slice b8' ms.length i8'] 31) := ⟨_, rfl⟩
  have sW : W.heap.size = u8.heap.size + 1 := by rw [hW]; simp
  have bW : Below u8.heap.size u8 W := by rw [hW]; exact (Below.refl _ _).alloc (Nat.le_refl _) _
  have VW : Blk W u8.heap.size #[.int .i64 cd, .bool ff, .slice b8 ls.length i8, .slice b8' ms.length i8'] 31 := by rw [hW]; exact Blk.new _ _ _
  have CW : Below U.heap.size U W := C8.trans (bW.mono C8.size)
  have FX0 : Hid (∀ u : World, Ex U.heap.size U.heap.size W u → OwnP u U.heap.size U.heap.size rs0 gs0) := fun u h => (O6.below bW).ex h (Nat.le_refl _)
  have FX1 : Hid (∀ u : World, Ex U.heap.size u6.heap.size W u → OwnP u u6.heap.size u6.heap.size rs1 gs1) := fun u h => (O7.below bW).ex h (Nat.le_refl _)
  have OG : OwnC W u7.heap.size b8 b8' i8 i8' ls ms := O8.below bW
  have FG : Hid (∀ u : World, Ex U.heap.size u7.heap.size W u → OwnC u u7.heap.size b8 b8' i8 i8' ls ms) := fun u h => OG.ex h (Nat.le_refl _)
  have FV : Hid (∀ (hi : Nat) (u : World), hi ≤ u8.heap.size → Ex U.heap.size hi W u → Blk u u8.heap.size #[.int .i64 cd, .bool ff, .slice b8 ls.length i8, .slice b8' ms.length i8'] 31 ∧ u8.heap.size < u.heap.size) := fun hi u hh h => ⟨VW.ex h (.inr hh), by have := h.size; omega⟩
  have FE : Hid (∀ (hi : Nat) (u : World), Ex U.heap.size hi W u → Below U.heap.size U u) := fun hi u h => CW.trans (Ex.low h CW.size)
  have GB : Hid (∀ b, ((∃ x, b8 = some x ∧ b = x.block) ∨ ∃ x, b8' = some x ∧ b = x.block) → u7.heap.size ≤ b ∧ b < u8.heap.size) := O8.blocks
  have DW : Below W.heap.size W W := Below.refl _ _
  clear O6 O7 O8 OG VW bW sW hb8
  have v0 := ((FW.out _ C8).2.1).cell 0
  have v1 := ((FW.out _ C8).2.1).cell 1
  have v2 := ((FW.out _ C8).2.1).cell 2
  have v3 := ((FW.out _ C8).2.1).cell 3
  simp at v0 v1 v2 v3
  have qv := (FW.out _ C8).2.2.2.2
  go_wp2_with fail
  simp only [← hW]
  refine (eqClashR_any cd ff b8 b8' b5 b5' i8 i8' i5 i5' ls ms _ (has_of_own (FG.out _ (Fr.refl _ _)).one WA.out) (has_of_own (FG.out _ (Fr.refl _ _)).two WB.out) ((FW.out _ CW).2.2.1).1 ((FW.out _ CW).2.2.1).2 (by omega) (by omega)).mono ?_
  rintro r u9 ⟨rfl, hb9⟩
  have E9 : Ex U.heap.size U.heap.size W u9 := Ex.on (Fr.refl _ _) hb9
  clear v0 v1 v2 v3 qv hb9 hW
  go_wp2_with fail
  refine (toByteSS_has a0 cap0 rs0 _ ((FW.out _ (FE.out _ _ E9)).1.1) hp0a hp0e.out).mono ?_
  rintro r u10 ⟨q10, e10, rfl, X10, y10, hb10⟩
  have E10 : Ex U.heap.size U.heap.size W u10 := Ex.on E9 hb10
  clear hb10
  obtain ⟨qy0, ey0, _, Y10⟩ := (FX0.out _ E10).qs hg0 WP0.out
  go_wp2_with fail
  refine (eqByteSS_two _ _ _ _ rs0 _ _ _ Y10 X10 ey0 e10 hp0a hp0e.out).mono ?_
  rintro r u11 ⟨rfl, hb11⟩
  have E11 : Ex U.heap.size U.heap.size W u11 := Ex.on E10 hb11
  clear hb11 E10 X10
  go_wp2_with fail
  refine (toByteSS_has a1 cap1 rs1 _ ((FW.out _ (FE.out _ _ E11)).1.2) hp1a hp1e.out).mono ?_
  rintro r u12 ⟨q12, e12, rfl, X12, y12, hb12⟩
  have E12 : Ex U.heap.size U.heap.size W u12 := Ex.on E11 hb12
  clear hb12
  obtain ⟨qy1, ey1, _, Y12⟩ := (FX1.out _ (Fr.mono E12 (fun b h => ⟨h.1, by omega⟩))).qs hg1 WP1.out
  go_wp2_with fail
  refine (eqByteSS_two _ _ _ _ rs1 _ _ _ Y12 X12 ey1 e12 hp1a hp1e.out).mono ?_
  rintro r u13 ⟨rfl, hb13⟩
  have E13 : Ex U.heap.size U.heap.size W u13 := Ex.on E12 hb13
  clear hb13 E12 X12
  have O14 := FX0.out _ E13
  go_wp2_with fail
  refine (markByteSS_any _ _ rs0 gs0 (1) _ O14 hg0 hp0a hp0b (by omega) (by omega)).mono ?_
  rintro r u14 ⟨rfl, hm14, _⟩
  have E14 : Ex U.heap.size u6.heap.size W u14 := Ex.fr E13 hm14 (fun b hb => ⟨by have := (O14.row_lt (by omega) b hb).1; omega, GS0.out b hb⟩) (by omega)
  clear hm14 O14 E13
  have O15 := FX1.out _ E14
  go_wp2_with fail
  refine (markByteSS_any _ _ rs1 gs1 (1 + (sumZ rs0 : Int)) _ O15 hg1 hp1a hp1b (by omega) (by omega)).mono ?_
  rintro r u15 ⟨rfl, hm15, _⟩
  have E15 : Ex U.heap.size u7.heap.size W u15 := Ex.fr E14 hm15 (fun b hb => ⟨by have := (O15.row_lt (by omega) b hb).1; omega, GS1.out b hb⟩) (by omega)
  clear hm15 O15 E14
  have vf := FV.out _ _ (by omega) E15
  have fw := FW.out _ (FE.out _ _ E15)
  have t0 := (vf.1).cell 0
  have t1 := (vf.1).cell 1
  have t2 := (vf.1).cell 2
  have t3 := (vf.1).cell 3
  simp at t0 t1 t2 t3
  have v0 := (fw.2.1).cell 0
  have v1 := (fw.2.1).cell 1
  have v2 := (fw.2.1).cell 2
  have v3 := (fw.2.1).cell 3
  simp at v0 v1 v2 v3
  go_wp2_with fail
  refine (eqClashR_any cd ff _ _ _ _ _ _ _ _ ls ms _ (has_of_own (FG.out _ E15).one WA.out) (has_of_own (FG.out _ E15).two WB.out) (fw.2.2.1).1 (fw.2.2.1).2 (by omega) (by omega)).mono ?_
  rintro r u16 ⟨rfl, hb16⟩
  have E16 : Ex U.heap.size u7.heap.size W u16 := Ex.on E15 hb16
  clear t0 t1 t2 t3 v0 v1 v2 v3 vf fw hb16 E15
  have vf := FV.out _ _ (by omega) E16
  have t0 := (vf.1).cell 0
  have t1 := (vf.1).cell 1
  have t2 := (vf.1).cell 2
  have t3 := (vf.1).cell 3
  simp at t0 t1 t2 t3
  go_wp2_with fail
  refine (markClashR_any cd ff _ _ _ _ _ ls ms 1 _ (FG.out _ E16) (by omega) (by omega) (by omega) (by omega) (by omega)).mono ?_
  rintro r u17 ⟨rfl, OM, hm17⟩
  have E17 : Ex U.heap.size u8.heap.size W u17 := Ex.fr E16 hm17 (fun b hb => by have := GB.out b hb; omega) (by omega)
  have FM : Hid (∀ u : World, Below u17.heap.size u17 u → Has u .u8 b8 (markL 1 ls.length).length (markL 1 ls.length) ∧ Has u .u8 b8' (markL (1 + ls.length) ms.length).length (markL (1 + ls.length) ms.length)) := by
    intro u h
    have h1 := OM.one
    have h2 := OM.two
    exact ⟨(has_of_own h1 (markL_wf _ _)).below h (Nat.le_refl _), (has_of_own h2 (markL_wf _ _)).below h (Nat.le_refl _)⟩
  have D17 : Below u17.heap.size u17 u17 := Below.refl _ _
  clear hm17 OM vf t0 t1 t2 t3 E16
  have vf := FV.out _ _ (Nat.le_refl _) E17
  have t0 := (vf.1).cell 0
  have t1 := (vf.1).cell 1
  have t2 := (vf.1).cell 2
  have t3 := (vf.1).cell 3
  simp at t0 t1 t2 t3
  go_wp2_with fail
  refine (heldClashR_any cd ff _ _ _ _ ls.length ms.length 1 _ (FM.out _ D17).1 (FM.out _ D17).2 (by omega) (by omega) (by omega) (by omega)).mono ?_
  rintro r u18 ⟨rfl, hb18⟩
  have E18 : Ex U.heap.size u8.heap.size W u18 := Ex.on E17 hb18
  have D18 : Below u17.heap.size u17 u18 := D17.trans (hb18.mono D17.size)
  clear vf t0 t1 t2 t3 hb18 E17 D17
  go_wp2_with fail
  refine (toByteSS_has a0 cap0 rs0 _ ((FW.out _ (FE.out _ _ E18)).1.1) hp0a hp0e.out).mono ?_
  rintro r u19 ⟨q19, e19, rfl, X19, y19, hb19⟩
  have E19 : Ex U.heap.size u8.heap.size W u19 := Ex.on E18 hb19
  have D19 : Below u17.heap.size u17 u19 := D18.trans (hb19.mono D18.size)
  clear hb19 E18 D18
  go_wp2_with fail
  refine (toByteSS_has a1 cap1 rs1 _ ((FW.out _ (FE.out _ _ E19)).1.2) hp1a hp1e.out).mono ?_
  rintro r u20 ⟨q20, e20, rfl, X20, y20, hb20⟩
  have E20 : Ex U.heap.size u8.heap.size W u20 := Ex.on E19 hb20
  have D20 : Below u17.heap.size u17 u20 := D19.trans (hb20.mono D19.size)
  replace X19 := X19.below hb20 (Nat.le_refl _)
  clear hb20 E19 D19
  go_wp2_with fail
  refine (IM.out _ _ _ _ _ (HT.out.below (FW.out _ (FE.out _ _ E20)).2.2.2.1 (Nat.le_refl _)) X19 e19 X20 e20).mono ?_
  rintro r u21 ⟨b21, i21, b21', i21', rfl, O21, hb21⟩
  have E21 : Ex U.heap.size u8.heap.size W u21 := Ex.on E20 hb21
  have D21 : Below u17.heap.size u17 u21 := D20.trans (hb21.mono D20.size)
  clear X19 X20 hb21 E20 D20
  have fw := FW.out _ (FE.out _ _ E21)
  have qf := (FV.out _ _ (Nat.le_refl _) E21).2
  have v0 := (fw.2.1).cell 0
  have v1 := (fw.2.1).cell 1
  have v2 := (fw.2.1).cell 2
  have v3 := (fw.2.1).cell 3
  simp at v0 v1 v2 v3
  have qv := fw.2.2.2.2
  go_wp2_with fail
  refine (eqClashR_any cd ff _ _ _ _ _ _ _ _ ls ms _ ((has_of_own O21.one WA.out).alloc _) ((has_of_own O21.two WB.out).alloc _) (fw.2.2.1.1.alloc _) (fw.2.2.1.2.alloc _) (by omega) (by omega)).mono ?_
  rintro r u22 ⟨rfl, hb22⟩
  have bb := ((Below.refl u21.heap.size u21).alloc (Nat.le_refl _) (.cells #[.int .i64 cd, .bool ff, .slice b21 ls.length i21, .slice b21' ms.length i21'] 31)).trans (hb22.mono (by simp))
  have E22 : Ex U.heap.size u8.heap.size W u22 := Ex.on E21 bb
  have D22 : Below u17.heap.size u17 u22 := D21.trans (bb.mono D21.size)
  clear fw qf qv v0 v1 v2 v3 hb22 bb O21 E21 D21
  have vf := FV.out _ _ (Nat.le_refl _) E22
  have t0 := (vf.1).cell 0
  have t1 := (vf.1).cell 1
  have t2 := (vf.1).cell 2
  have t3 := (vf.1).cell 3
  simp at t0 t1 t2 t3
  go_wp2_with fail
  refine (heldClashR_any cd ff _ _ _ _ ls.length ms.length 1 _ (FM.out _ D22).1 (FM.out _ D22).2 (by omega) (by omega) (by omega) (by omega)).mono ?_
  rintro r u23 ⟨rfl, hb23⟩
  have E23 : Ex U.heap.size u8.heap.size W u23 := Ex.on E22 hb23
  have D23 : Below u17.heap.size u17 u23 := D22.trans (hb23.mono D22.size)
  clear vf t0 t1 t2 t3 hb23 E22 D22
  go_wp2
  go_ret
  exact ⟨rfl, (FW.out _ (FE.out _ _ E23)).2.2.2.1⟩

set_option maxRecDepth 100000 in
theorem fnExactPieceClash_lifted (os : Os) (started : os.Started) (H : Type) (enc : TypeId × Value → H) :
    ReturnsInHanded {} Tryd.checked os 10 .any (fun w args => (Rows.fnExactPieceClashSpec.pre enc Tryd.prog Tryd.f10 [] false w args ∧ laidMetH Tryd.prog [("loop.example/g00565/impl.pieceStarts", Rows.laid_loop_example_g00565_impl_pieceStarts)] w) ∧ sizedMet enc Tryd.prog Tryd.f10 (OpenSpec.ofChange Rows.fnExactPieceClashSpec) false w args) (Rows.fnExactPieceClashSpec.post enc Tryd.prog Tryd.f10 false true false false) := by
  refine returnsInHanded_of_change_and (C := Tryd.checked) (X := fun w _ => laidMetH Tryd.prog [("loop.example/g00565/impl.pieceStarts", Rows.laid_loop_example_g00565_impl_pieceStarts)] w) (fun _ _ _ hh h => h.of_heap hh) own started (by kernel_rfl) Tryd.func10
    (ChangeSpec.witness_shaped (enc := enc) (C := Tryd.checked) (os := os) (X := fun w _ => laidMetH Tryd.prog [("loop.example/g00565/impl.pieceStarts", Rows.laid_loop_example_g00565_impl_pieceStarts)] w) false (World.doorLaid Tryd.prog 400 os) #[.slice none 0 0, .slice none 0 0] 8 rfl (World.shaped_of_RefB (by kernel_rfl) (by kernel_rfl)) (by kernel_rfl) (by kernel_rfl) (by kernel_rfl) (door_met os _)) ?_
  intro W base args ds gs before hval0 hW _ _ hL _
  have hval : ∀ (j : Nat) t v, Tryd.f10.params[j]? = some t → args[j]? = some v → Value.okWide Tryd.prog W .any base t v := hval0
  have hW' := hW
  obtain ⟨p, q, hA0, hV, rfl, hfz, hnd⟩ := hW
  have hA : DataW.TrodAll enc Tryd.prog W 0 (fun _ => true) true Tryd.f10.params.toList args.toList ds p := hA0
  rw [Tryd.params10] at hA hval
  obtain ⟨v0, vs0, d0, ds0, p0, q0, hargs, rfl, rfl, h0, r0⟩ := trodAll_cons hA
  obtain ⟨v1, vs1, d1, ds1, p1, q1, rfl, rfl, rfl, h1, r1⟩ := trodAll_cons r0
  obtain ⟨rfl, rfl, rfl⟩ := trodAll_nil r1
  obtain rfl : args = #[v0, v1] := by cases args; simp_all
  obtain ⟨g, rfl⟩ : ∃ g, gs = [g] := by obtain ⟨_, _, _, _, d, _, e, _⟩ := trodVars_one hV; exact ⟨d, e⟩
  have g0 := h0
  have lt0 : ∀ x ∈ p0, x.block < W.heap.size := by obtain ⟨m, hm⟩ := g0; exact DataW.trod_lt m _ _ _ hm
  have g1 := h1
  have lt1 : ∀ x ∈ p1, x.block < W.heap.size := by obtain ⟨m, hm⟩ := g1; exact DataW.trod_lt m _ _ _ hm
  obtain ⟨a0, len0, cap0, rfl⟩ := okWide_slice Tryd.underlying24 (hval 0 24 v0 rfl rfl)
  obtain ⟨rs0, w0⟩ : ∃ rs, IsPcs W a0 len0 cap0 rs := by
    obtain ⟨fuel, hf⟩ := h0
    obtain ⟨a', l', c', rs, e, h⟩ := pcs_of_trod (v := .slice a0 len0 cap0) Tryd.underlying24 Tryd.underlying22 Tryd.underlying5 (by kernel_rfl) (by kernel_rfl) (by simpa [Value.cells] using hf)
    simp at e
    obtain ⟨rfl, rfl, rfl⟩ := e
    exact ⟨rs, h⟩
  obtain ⟨a1, len1, cap1, rfl⟩ := okWide_slice Tryd.underlying24 (hval 1 24 v1 rfl rfl)
  obtain ⟨rs1, w1⟩ : ∃ rs, IsPcs W a1 len1 cap1 rs := by
    obtain ⟨fuel, hf⟩ := h1
    obtain ⟨a', l', c', rs, e, h⟩ := pcs_of_trod (v := .slice a1 len1 cap1) Tryd.underlying24 Tryd.underlying22 Tryd.underlying5 (by kernel_rfl) (by kernel_rfl) (by simpa [Value.cells] using hf)
    simp at e
    obtain ⟨rfl, rfl, rfl⟩ := e
    exact ⟨rs, h⟩
  clear hA0 hval0
  refine (fnExactPieceClash_walk W (tab_of_laid hL) a0 len0 cap0 rs0 w0 a1 len1 cap1 rs1 w1).mono fun e W' ⟨he, bel⟩ => ?_
  subst he
  exact ⟨_, rfl, _, _, _, [], _, _, hW', trodAll_mk1 (shut_bool Tryd.underlying4 _), (trodAll_cons_mk (Below.trod laidOut (by kernel_rfl) (of_decide_eq_true (by kernel_rfl)) g0 bel lt0) (trodAll_cons_mk (Below.trod laidOut (by kernel_rfl) (of_decide_eq_true (by kernel_rfl)) g1 bel lt1) trodAll_mk0)), Below.trodVars laidOut bel (by kernel_rfl) hV, bel.frame _, fun h => by cases h⟩

theorem fnExactPieceClash_row : Rows.FnExactPieceClashSaid :=
  OpenClaim.holds_of_wide 10 Tryd.f10 rfl rfl rfl rfl rfl rfl rfl ⟨rfl, rfl, rfl, rfl, rfl⟩ rfl rfl rfl rfl rfl (by kernel_rfl) Tryd.func10 (by kernel_rfl)
    (of_decide_eq_true (by kernel_rfl)) (by unfold Func.isWrapper; first | (rw [if_pos (by decide +kernel)]; kernel_rfl) | (rw [if_neg (by decide +kernel)]; exact ⟨rfl, rfl⟩))
    (fun os started H enc _ => fnExactPieceClash_lifted os started H enc)

theorem fnExactPieceClash_holds : Rows.FnExactPieceClashCardSaid :=
  Claim7.holds_tied_plain_at .later [] [.data] true Rows.fnExactPieceClashCard.stood.harness Rows.fnExactPieceClashCard.stood.looks
    fnExactPieceClash_row (fun _ h => by cases h) (by kernel_rfl) (fun _ h => by cases h) fnExactPieceClash_row_tie rfl ⟨rfl, rfl⟩ (by kernel_rfl) rfl
    (fun f fn hf hfn => by
      obtain rfl : f = 10 := Option.some.inj ((show Tryd.prog.funcNamed "loop.example/g00565/laws.FnExactPieceClash" = some 10 by kernel_rfl).symm.trans hf) |>.symm
      obtain rfl : fn = Tryd.f10 := (Option.some.inj (Tryd.func10.symm.trans hfn)).symm
      exact ⟨by kernel_rfl, fun j t ht => by
        rw [Tryd.params10] at ht
        have h3 : t = 24 := by
          match j, ht with
          | 0, ht => simp at ht; simp [← ht]
          | 1, ht => simp at ht; simp [← ht]
          | _ + 2, ht => simp at ht
        rcases h3 with rfl
        all_goals exact (show Tryd.prog.wantsStandIn _ = false by kernel_rfl)⟩)
    (by kernel_rfl)
#print axioms fnExactPieceClash_holds
end Go.Proofs.YtklhkhlmhddmcaaDoor
