/- Contracts: the model's draws of pieces; lists of pieces in memory of one's own that grow. Contracts: the model's draws of pieces that are bent, of pieces like others, and of two rows of leaves. Contracts: the model's draws of pieces that are like others. Contracts: the model's draw of two lists of pieces. Contracts: the model's draws of pieces and of a leaf among them. -/
import Derived.Test.YtklhkhlmhddmcaaDoorPcsC
import Derived.Test.YtklhkhlmhddmcaaDoorPair
import Derived.Test.YtklhkhlmhddmcaaDoorSource
import Derived.Test.YtklhkhlmhddmcaaDoorLvl
import Derived.Deep.DeepCutAuto
import Derived.Test.YtklhkhlmhddmcaaDoorDraw4
import Derived.Test.YtklhkhlmhddmcaaDoorDrawG6
import Derived.Test.YtklhkhlmhddmcaaDoorToClash
import Derived.Test.YtklhkhlmhddmcaaDoorSums6
import Derived.Test.YtklhkhlmhddmcaaDoorPath4S
namespace Go.Proofs.YtklhkhlmhddmcaaDoor
open Go.ChangeShapes Go.WideShapes Go.ChangeAt Go.RowKit
set_option linter.unusedVariables false
set_option linter.unusedSimpArgs false

/-- A fact that is kept from the walk. -/
structure Kept6 (p : Prop) : Prop where
  out : p
/-- A list of pieces in memory of its own. -/
structure PcsAt (w : World) (base : Nat) (v : Value) (rs : List Pc) : Prop where
  out : w.ownsRow base 22 1 v rs.length ((rs).map fun r : Pc => Value.slice r.ad r.zs.length r.cap)
  row : ∀ r ∈ rs, World.ownsRow w base 5 1 (.slice (r).ad (r).zs.length (r).cap) (r).zs.length ((r).zs.map (.int .u8))
  wf : ∀ r ∈ rs, ∀ n ∈ r.zs, (Lit.int .u8 n).wf = true
theorem PcsAt.below {w w' : World} {base : Nat} {v : Value} {rs : List Pc} (h : PcsAt w base v rs) (hb : Below w.heap.size w w') : PcsAt w' base v rs := ⟨own_below h.out hb, fun r hr => own_below (h.row r hr) hb, h.wf⟩
theorem PcsAt.only {w w' : World} {base s : Nat} {v : Value} {rs : List Pc} (h : PcsAt w base v rs) (ho : Only s w w') (hs : s < base) : PcsAt w' base v rs := ⟨own_only h.out ho hs, fun r hr => own_only (h.row r hr) ho hs, h.wf⟩
theorem PcsAt.mono {w : World} {base base' : Nat} {v : Value} {rs : List Pc} (h : PcsAt w base v rs) (hb : base' ≤ base) : PcsAt w base' v rs := ⟨own_mono h.out hb, fun r hr => own_mono (h.row r hr) hb, h.wf⟩
theorem rows_apart {w : World} {base b2 n m : Nat} {v u : Value} {xs ys : List Value} {g k : Nat} (h : w.ownsRow base 22 1 v n xs) (h2 : w.ownsRow b2 5 1 u m ys) (hg : v.ownBlock = some g) (hk : u.ownBlock = some k) : k ≠ g := by
  intro e
  subst e
  obtain ⟨c1, e1⟩ := own_cells h hg
  obtain ⟨c2, e2⟩ := own_cells h2 hk
  rw [e1] at e2
  simp at e2
theorem PcsAt.app {w w3 : World} {base : Nat} {v v' : Value} {rs : List Pc} {r : Pc} (h : PcsAt w base v rs) (hr : World.ownsRow w base 5 1 (.slice (r).ad (r).zs.length (r).cap) (r).zs.length ((r).zs.map (.int .u8))) (hw : ∀ n ∈ r.zs, (Lit.int .u8 n).wf = true) (ho : w3.ownsRow base 22 1 v' (rs.length + 1) (((rs).map fun r : Pc => Value.slice r.ad r.zs.length r.cap) ++ [.slice r.ad r.zs.length r.cap])) (hg : w.grownBy w3 v.ownBlock) : PcsAt w3 base v' (rs ++ [r]) := by
  have hf : Fr (fun k => v.ownBlock = some k) w w3 := .of_grown hg (fun k e => e)
  refine ⟨by simpa using ho, fun x hx => ?_, fun x hx => ?_⟩
  · simp at hx
    rcases hx with hx | rfl
    · exact own_fr (h.row x hx) hf (fun g e1 e2 => rows_apart h.out (h.row x hx) e2 e1 rfl)
    · exact own_fr hr hf (fun g e1 e2 => rows_apart h.out hr e2 e1 rfl)
  · simp at hx
    rcases hx with hx | rfl
    · exact h.wf x hx
    · exact hw
theorem PcsAt.has {w : World} {base n c : Nat} {a : Option Addr} {rs : List Pc} (h : PcsAt w base (.slice a n c) rs) : n = rs.length ∧ n ≤ c ∧ c ≤ maxLen ∧ HasP w a rs := by
  have hrow : ∀ r ∈ rs, Has w .u8 r.ad r.zs.length r.zs ∧ r.zs.length ≤ r.cap ∧ r.cap ≤ maxLen := by
    intro r hr
    have h1 := h.row r hr
    refine ⟨has_of_own h1 (h.wf r hr), ?_⟩
    rcases h1.2 with ⟨e1, h0⟩ | ⟨g, cap, cur, e1, _, _, h1, h2, _⟩
    · simp at e1
      omega
    · simp at e1
      obtain ⟨_, rfl⟩ := e1
      exact ⟨h1, h2⟩
  rcases h.out.2 with ⟨e1, h0⟩ | ⟨g, cap, cur, e1, _, hg, h1, h2, _⟩
  · simp at e1
    obtain ⟨rfl, rfl, rfl⟩ := e1
    exact ⟨h0.symm, by omega, Nat.zero_le _, .inl h0, hrow⟩
  · simp at e1
    obtain ⟨rfl, rfl, rfl⟩ := e1
    refine ⟨rfl, h1, h2, .inr ⟨g, 0, rfl, (Array.getElem?_eq_some_iff.1 hg).1, fun i hi => ?_⟩, hrow⟩
    rw [Nat.zero_add, h.out.cellAt i (by omega)]
    simp [hi]
theorem PcsAt.shape {w : World} {base : Nat} {v : Value} {rs : List Pc} (h : PcsAt w base v rs) : ∃ a c, v = .slice a rs.length c := own_row_shape h.out

set_option maxHeartbeats 4000000 in
set_option maxRecDepth 100000 in
theorem l6Draw_any (w : World) (B s : Nat) (a : Option Addr) (len cap : Nat) (zs : List Int) (t : Nat) (h : SrcAt (w) B s a len cap zs (t)) (ht : t ≤ 100000) :
    Calls Tryd.prog 95 #[.pointer (some ⟨s, 0, none⟩)] w fun e w' => ∃ (a' : Option Addr) (c' : Nat) (rs : List Pc) (t' : Nat), e = .returned (.slice a' rs.length c') ∧ rs.length ≤ 8 ∧ (∀ r ∈ rs, r.zs.length ≤ 4) ∧ PcsAt w' w.heap.size (.slice a' rs.length c') rs ∧ SrcAt (w') B s a len cap zs (t') ∧ t' ≤ t + 50 ∧ Only s w w' := by
  obtain ⟨i0, hi, hz0, hz1, hz2⟩ := info_parts infoSS
  have hlt := h.lt
  have hown0 : (w.alloc (.cells #[] 22)).ownsRow w.heap.size 22 1 (.slice (some ⟨w.heap.size, 0, none⟩) 0 0) 0 ((([] : List Pc)).map fun r : Pc => Value.slice r.ad r.zs.length r.cap) := World.ownsRow_lit w #[] 0 (Nat.le_refl _) (Nat.zero_le _) rfl
  have P0 : PcsAt (w.alloc (.cells #[] 22)) w.heap.size (.slice (some ⟨w.heap.size, 0, none⟩) 0 0) [] := ⟨hown0, by simp, by simp⟩
  have ho0 := (Only.refl s w).alloc (.cells #[] 22)
  have hs0 := h.alloc (.cells #[] 22)
  clear h hown0
  go_enter Tryd.func95, Tryd.ntmps95
  go_wp2_with fail
  refine (next_any _ B s a len cap zs t 8 hs0 (by omega) (by omega) (by omega)).mono ?_
  rintro e u1 ⟨k, rfl, k0, k1, S1, Y1⟩
  obtain ⟨j0, rfl⟩ := Int.eq_ofNat_of_zero_le k0
  have P1 := P0.only Y1 hlt
  have N1 := ho0.trans Y1
  clear P0 ho0 hs0 Y1
  go_wp2
  go_loopw [3, 4] (fun v kk wr => ∃ (j : Nat) (rs : List Pc), kk = .int .i64 j ∧ rs.length + j ≤ 7 ∧ (∀ r ∈ rs, r.zs.length ≤ 4) ∧ PcsAt wr w.heap.size v rs ∧ (∃ t' : Nat, t' ≤ t + 1 + 5 * rs.length ∧ SrcAt (wr) B s a len cap zs (t')) ∧ Only s w wr) (fun _ kk _ => (intOf kk).toNat)
  case atStart => exact ⟨j0, [], rfl, by simp; omega, by simp, P1, ⟨_, by simp, S1⟩, N1⟩
  case round =>
    clear P1 S1 N1
    obtain ⟨j, rs, rfl, hj7, hsm, hP, ⟨t', ht', hS⟩, hO⟩ := hrel
    obtain ⟨va, vc, rfl⟩ := hP.shape
    have HSM : Hid (∀ r ∈ rs, r.zs.length ≤ 4) := hsm
    have zW := hO.size
    clear hsm
    by_cases hj : 0 < j
    · have hj' : (0 : Int) < (j : Int) := by omega
      go_wp2_with fail
      refine (next_any _ B s a len cap zs t' 4 hS (by omega) (by omega) (by omega)).mono ?_
      rintro e u2 ⟨n, rfl, n0, n1, S2, Y2⟩
      obtain ⟨m, rfl⟩ := Int.eq_ofNat_of_zero_le n0
      have z2 := Y2.size
      have P2 := hP.only Y2 hlt
      have N2 := hO.trans Y2
      clear hP hS hO Y2
      go_wp2_with fail
      refine (some_any _ B s a len cap zs _ m S2 (by omega) (by omega)).mono ?_
      rintro e u3 ⟨a3, c3, ys, rfl, hyl, O3, yw, S3, Y3⟩
      subst hyl
      have z3 := Y3.size
      have P3 := P2.only Y3 hlt
      have N3 := N2.trans Y3
      have R3 : Kept6 (World.ownsRow u3 w.heap.size 5 1 (.slice ((⟨a3, c3, ys⟩ : Pc)).ad ((⟨a3, c3, ys⟩ : Pc)).zs.length ((⟨a3, c3, ys⟩ : Pc)).cap) ((⟨a3, c3, ys⟩ : Pc)).zs.length (((⟨a3, c3, ys⟩ : Pc)).zs.map (.int .u8))) := ⟨own_mono O3 (by omega)⟩
      have YW : Hid (∀ y ∈ ys, (Lit.int .u8 y).wf = true) := yw
      clear P2 N2 S2 Y3 O3 yw
      have O3 := P3.out
      go_wp2_with (at_builtin; refine wpList_append_own _ rfl _ _ 24 rfl w.heap.size 22 i0 (.slice none 0 0) 1 24 Tryd.underlying24 hi hz0 hz1 hz2 rfl (by decide) _ _ _ rfl (O3.alloc _) ⟨u3.heap.size, 0, none⟩ 1 1 [(.slice a3 ys.length c3)] rfl rfl (one_new _ _ _) (by intro u hu; simp at hu; subst hu; rfl) (by unfold maxLen; omega) (by omega) (by simp; omega) ?_; intro v' w3 hown3 hgrow _h4)
      have hbel : Below w.heap.size (u3.alloc (.cells #[.slice a3 ys.length c3] 22)) w3 := (Below.refl _ _).grown hgrow (by simp; omega) (fun k hk => (O3.lt k hk).1)
      have bA : Below u3.heap.size u3 (u3.alloc (.cells #[.slice a3 ys.length c3] 22)) := (Below.refl _ _).alloc (Nat.le_refl _) _
      have P4 := PcsAt.app (P3.below bA) (r := ⟨a3, c3, ys⟩) (own_below R3.out bA) YW.out hown3 hgrow
      have S4 := (S3.below bA).below' hbel hlt
      have N4 := (N3.alloc _).then_below hbel
      have KH : Kept6 (PcsAt w3 w.heap.size v' (rs ++ [⟨a3, c3, ys⟩])) := ⟨P4⟩
      have SH : Kept6 (SrcAt (w3) B s a len cap zs (t' + 1 + ys.length)) := ⟨S4⟩
      have NH : Kept6 (Only s w w3) := ⟨N4⟩
      clear hgrow hown3 _h4 hbel bA O3 P3 P4 S3 S4 N3 N4 R3
      go_wp2
      go_roundw
      case rel => exact ⟨j - 1, rs ++ [⟨a3, c3, ys⟩], by go_num, by simp; omega, by intro r hr; simp at hr; rcases hr with hr | rfl; exact HSM.out r hr; show ys.length ≤ 4; omega, KH.out, ⟨_, by simp; omega, SH.out⟩, NH.out⟩
      case measure => simp [intOf]; omega
    · have hj' : (j : Int) ≤ 0 := by omega
      go_wp2
      go_ret
      exact ⟨va, vc, rs, _, rfl, by omega, HSM.out, hP, hS, by omega, hO⟩

end Go.Proofs.YtklhkhlmhddmcaaDoor

namespace Go.Proofs.YtklhkhlmhddmcaaDoor
open Go.ChangeShapes Go.WideShapes Go.ChangeAt Go.RowKit
set_option linter.unusedVariables false
set_option linter.unusedSimpArgs false

theorem own_lt2 {w : World} {base e n c : Nat} {a : Option Addr} {xs : List Value} (h : w.ownsRow base e 1 (.slice a n c) n xs) {g : Nat} (hg : (Value.slice a n c).ownBlock = some g) : g < w.heap.size := by
  obtain ⟨cs, hc⟩ := own_cells h hg
  exact (Array.getElem?_eq_some_iff.1 hc).1
theorem made_zero6 (n : Nat) : (madeCells (Value.int .u8 0).cells (n * 1)).toList = (List.replicate n (0 : Int)).map (.int .u8) := by
  have := partB_zero (List.replicate n (0 : Int))
  rw [List.length_replicate] at this
  rw [this]
  simp [partB]
theorem made_none (n : Nat) : (madeCells (Value.slice none 0 0).cells (n * 1)).toList = ((List.replicate n (⟨none, 0, []⟩ : Pc)).map fun r : Pc => Value.slice r.ad r.zs.length r.cap) := by
  have := partR_zero (List.replicate n (⟨none, 0, []⟩ : Pc))
  rw [List.length_replicate] at this
  rw [this]
  simp [partR]
theorem none_at (w : World) (base n : Nat) (v : Value) (h : w.ownsRow base 22 1 v n ((List.replicate n (⟨none, 0, []⟩ : Pc)).map fun r : Pc => Value.slice r.ad r.zs.length r.cap)) : PcsAt w base v (List.replicate n ⟨none, 0, []⟩) := by
  refine ⟨by rw [List.length_replicate]; exact h, fun r hr => ?_, fun r hr => ?_⟩
  · rw [List.eq_of_mem_replicate hr]
    exact World.ownsRow_nil _ _ _ _
  · rw [List.eq_of_mem_replicate hr]
    simp

set_option maxHeartbeats 4000000 in
set_option maxRecDepth 100000 in
theorem l6Bent_any (w : World) (B s : Nat) (a : Option Addr) (len cap : Nat) (zs : List Int) (t : Nat) (h : SrcAt (w) B s a len cap zs (t)) (ht : t ≤ 100000) :
    Calls Tryd.prog 63 #[.pointer (some ⟨s, 0, none⟩)] w fun e w' => ∃ (a' : Option Addr) (c' : Nat) (rs : List Pc) (t' : Nat), e = .returned (.slice a' rs.length c') ∧ rs.length ≤ 25 ∧ (∀ r ∈ rs, r.zs.length ≤ 251) ∧ PcsAt w' w.heap.size (.slice a' rs.length c') rs ∧ SrcAt (w') B s a len cap zs (t') ∧ t' ≤ t + 60 ∧ Only s w w' := by
  obtain ⟨i0, hi, hz0, hz1, hz2⟩ := info_parts infoSS
  obtain ⟨j0, hj, hy0, hy1, hy2⟩ := info_parts info8
  have hlt := h.lt
  go_enter Tryd.func63, Tryd.ntmps63
  go_wp2_with fail
  refine (l6Draw_any w B s a len cap zs t h ht).mono ?_
  rintro e u1 ⟨a1, c1, rs, t1, rfl, l8, sm, P1, S1, ht1, Y1⟩
  have z1 := Y1.size
  have SM : Kept6 (∀ r ∈ rs, r.zs.length ≤ 4) := ⟨sm⟩
  clear sm h
  go_wp2_with fail
  refine (next_any _ B s a len cap zs t1 14 S1 (by omega) (by omega) (by omega)).mono ?_
  rintro e u2 ⟨q, rfl, q0, q1, S2, Y2⟩
  have z2 := Y2.size
  have P2 := P1.only Y2 hlt
  have N2 := Y1.trans Y2
  clear P1 S1 Y1 Y2
  by_cases d0 : q = 0
  · have d0b : (q == 0) = true := by simpa using d0
    clear d0
    have PH : Hid (∀ i, i < [(250 : Int), 251].length → (u2.alloc (.cells #[.int .i64 250, .int .i64 251] 2)).cell? ⟨u2.heap.size, i, none⟩ = some (.int .i64 ([(250 : Int), 251].getD i 0))) := cells_lit u2 [250, 251] 2 _ rfl
    go_wp2_with fail
    refine (pick_any _ B s a len cap zs _ (S2.alloc _) (by omega) u2.heap.size [250, 251] 2 rfl (by simp) (by omega) (by omega) (by omega) 2 PH.out).mono ?_
    rintro e u3 ⟨x, rfl, hx, S3, Y3⟩
    have z3 := Y3.size
    simp at z3
    have xb : 250 ≤ x ∧ x ≤ 251 := by simp at hx; omega
    obtain ⟨n, rfl⟩ := Int.eq_ofNat_of_zero_le (show 0 ≤ x by omega)
    have P3 := (P2.below ((Below.refl _ _).alloc (Nat.le_refl _) (.cells #[.int .i64 250, .int .i64 251] 2))).only Y3 hlt
    have N3 := (N2.alloc (.cells #[.int .i64 250, .int .i64 251] 2)).trans Y3
    have HL : Hid ((madeCells (Value.int .u8 0).cells (n * 1)).toList = (List.replicate n (0 : Int)).map (.int .u8)) := made_zero6 n
    clear P2 S2 N2 Y3 hx PH
    go_wp2_with (first | (at_make; refine wpList_make_full _ rfl _ _ 22 rfl u3.heap.size 5 j0 (.int .u8 0) 1 Tryd.underlying22 hj hy0 hy1 _ _ _ _ n rfl rfl rfl rfl (by rw [hy2]; omega) (by unfold maxLen; omega) (Nat.le_refl _) ?_; intro w4 O4 hgrow4; have hb4 : Below u3.heap.size u3 w4 := (Below.refl _ _).grown hgrow4 (Nat.le_refl _) (by intro k hk; cases hk); have z4 := hb4.size; have O5 := (P3.below hb4).out) | (at_builtin; refine wpList_append_own _ rfl _ _ 24 rfl w.heap.size 22 i0 (.slice none 0 0) 1 24 Tryd.underlying24 hi hz0 hz1 hz2 rfl (by decide) _ _ _ rfl (O5.alloc _) ⟨w4.heap.size, 0, none⟩ 1 1 [(.slice (some ⟨u3.heap.size, 0, none⟩) n n)] rfl rfl (one_new _ _ _) (by intro u hu; simp at hu; subst hu; rfl) (by unfold maxLen; omega) (by omega) (by simp; omega) ?_; intro v' w3 hown3 hgrow _h4))
    rw [HL.out] at O4
    have en : (List.replicate n (0 : Int)).length = n := List.length_replicate
    have P4 := P3.below hb4
    have S4 := S3.below hb4
    have N4 := N3.trans (.of_below hb4)
    have R4 : Kept6 (World.ownsRow w4 w.heap.size 5 1 (.slice ((⟨some ⟨u3.heap.size, 0, none⟩, n, List.replicate n 0⟩ : Pc)).ad ((⟨some ⟨u3.heap.size, 0, none⟩, n, List.replicate n 0⟩ : Pc)).zs.length ((⟨some ⟨u3.heap.size, 0, none⟩, n, List.replicate n 0⟩ : Pc)).cap) ((⟨some ⟨u3.heap.size, 0, none⟩, n, List.replicate n 0⟩ : Pc)).zs.length (((⟨some ⟨u3.heap.size, 0, none⟩, n, List.replicate n 0⟩ : Pc)).zs.map (.int .u8))) := ⟨by show World.ownsRow _ _ _ _ (.slice _ (List.replicate n (0 : Int)).length n) (List.replicate n (0 : Int)).length _; rw [en]; exact own_mono O4 (by omega)⟩
    have EN : Kept6 ((List.replicate n (0 : Int)).length = n) := ⟨en⟩
    clear hgrow4 O4 hb4 P3 S3 N3 en HL
    have hbel : Below w.heap.size (w4.alloc (.cells #[.slice (some ⟨u3.heap.size, 0, none⟩) n n] 22)) w3 := (Below.refl _ _).grown hgrow (by simp; omega) (fun k hk => (O5.lt k hk).1)
    have bA : Below w4.heap.size w4 (w4.alloc (.cells #[.slice (some ⟨u3.heap.size, 0, none⟩) n n] 22)) := (Below.refl _ _).alloc (Nat.le_refl _) _
    have hown4 : w3.ownsRow w.heap.size 22 1 v' (rs.length + 1) (((rs).map fun r : Pc => Value.slice r.ad r.zs.length r.cap) ++ [.slice (some ⟨u3.heap.size, 0, none⟩) (List.replicate n (0 : Int)).length n]) := by rw [EN.out]; exact hown3
    have P6 := PcsAt.app (P4.below bA) (r := ⟨some ⟨u3.heap.size, 0, none⟩, n, List.replicate n 0⟩) (own_below R4.out bA) (by intro y hy; rw [List.eq_of_mem_replicate hy]; rfl) hown4 hgrow
    have S6 := (S4.below bA).below' hbel hlt
    have N6 := (N4.alloc _).then_below hbel
    obtain ⟨v1, v2, rfl⟩ := P6.shape
    clear hgrow hown3 _h4 hbel bA hown4 P4 S4 N4 R4 O5
    go_ret
    refine ⟨v1, v2, _, _, rfl, by simp; omega, ?_, P6, S6, by omega, N6⟩
    intro r hr
    simp at hr
    rcases hr with hr | rfl
    · have := SM.out r hr; omega
    · simp; omega
  · have d0b : (q == 0) = false := by simpa using d0
    clear d0
    by_cases d1 : q = 1
    · have d1b : (q == 1) = true := by simpa using d1
      clear d1
      have HL : Hid ((madeCells (Value.slice none 0 0).cells (25 * 1)).toList = ((List.replicate 25 (⟨none, 0, []⟩ : Pc)).map fun r : Pc => Value.slice r.ad r.zs.length r.cap)) := made_none 25
      go_wp2_with (at_make; refine wpList_make_full _ rfl _ _ 24 rfl w.heap.size 22 i0 (.slice none 0 0) 1 Tryd.underlying24 hi hz0 hz1 _ _ _ _ 25 rfl rfl rfl rfl (by rw [hz2]; omega) (by unfold maxLen; omega) (by omega) ?_; intro w1 hown hgrow)
      have hbel : Below u2.heap.size u2 w1 := (Below.refl _ _).grown hgrow (Nat.le_refl _) (by intro k hk; cases hk)
      rw [HL.out] at hown
      have P3 := none_at _ _ _ _ hown
      have l25 : (List.replicate 25 (⟨none, 0, []⟩ : Pc)).length = 25 := List.length_replicate
      obtain ⟨v1, v2, hv⟩ := P3.shape
      simp only [Value.slice.injEq] at hv
      obtain ⟨rfl, _, rfl⟩ := hv
      go_ret
      refine ⟨_, _, List.replicate 25 ⟨none, 0, []⟩, _, by rw [l25]; rfl, by rw [l25]; omega, ?_, by rw [l25]; exact P3, S2.below hbel, by omega, N2.trans (.of_below hbel)⟩
      intro r hr
      rw [List.eq_of_mem_replicate hr]
      simp
    · have d1b : (q == 1) = false := by simpa using d1
      clear d1
      go_wp2
      go_ret
      exact ⟨a1, c1, rs, _, rfl, by omega, fun r hr => by have := SM.out r hr; omega, P2, S2, by omega, N2⟩

set_option maxHeartbeats 4000000 in
set_option maxRecDepth 100000 in
theorem drawTreeClash_any (w : World) (a : Option Addr) (len cap : Nat) (zs : List Int) (h : Has w .u8 a len zs) (hl : len ≤ 1048576) :
    Calls Tryd.prog 30 #[.slice a len cap] w fun e w' => ∃ (a1 : Option Addr) (c1 : Nat) (xs : List Int) (a2 : Option Addr) (c2 : Nat) (ys : List Int), e = .returned (.tuple #[.slice a1 xs.length c1, .slice a2 ys.length c2]) ∧ xs.length ≤ 25 ∧ ys.length ≤ 25 ∧ (xs.length ≤ c1 ∧ c1 ≤ maxLen) ∧ (ys.length ≤ c2 ∧ c2 ≤ maxLen) ∧ Has w' .i64 a1 xs.length xs ∧ Has w' .i64 a2 ys.length ys ∧ Below w.heap.size w w' := by
  go_enter Tryd.func30, Tryd.ntmps30
  go_wp2_with fail
  refine (source_any _ a len cap zs h hl).mono ?_
  rintro e u1 ⟨rfl, S1, hb1, hs1⟩
  obtain ⟨u0, hu0⟩ : ∃ u0, u0 = w.heap.size := ⟨_, rfl⟩
  have AS : ∀ {w2 : World}, Only u0 u1 w2 → Below w.heap.size w w2 := fun {w2} ho => after_source hb1 (by rw [← hu0]; exact ho)
  rw [← hu0] at S1 hs1 ⊢
  clear hu0
  go_wp2_with fail
  refine (l4Bent_any _ _ _ a len cap zs 0 S1 (by omega)).mono ?_
  rintro e u2 ⟨a2, c2, xs, t2, rfl, xl, O2, xw, S2, ht2, Y2⟩
  have z2 := Y2.size
  have hc2 := own_caps O2
  have XW : Kept6 (∀ y ∈ xs, (Lit.int .i64 y).wf = true) := ⟨xw⟩
  have H2 := has_of_own O2 xw
  have HQ : Kept6 (∀ g, (Value.slice a2 xs.length c2).ownBlock = some g → g < u2.heap.size) := ⟨fun g hg => own_lt2 O2 hg⟩
  clear xw
  go_wp2_with fail
  refine (ints_any a2 c2 xs u2 H2 (by omega)).mono ?_
  rintro e u3 ⟨a3, c3, rfl, O3, hb3⟩
  have z3 := hb3.size
  have S3 := S2.below hb3
  have O23 := own_below O2 hb3
  have N3 := Y2.trans (.of_below hb3)
  clear S2 Y2 hb3 H2 O2
  go_wp2_with fail
  refine (next_any _ _ _ a len cap zs _ 4 S3 (by omega) (by omega) (by omega)).mono ?_
  rintro e u4 ⟨q, rfl, q0, q1, S4, Y4⟩
  have z4 := Y4.size
  have O24 := own_only O23 Y4 (by omega)
  have O34 := own_only O3 Y4 (by omega)
  have N4 := N3.trans Y4
  clear O23 O3 S3 N3 Y4
  by_cases d0 : q = 0
  · have d0b : (q == 0) = true := by simpa using d0
    clear d0
    go_wp2_with fail
    refine (l4Bent_any _ _ _ a len cap zs _ S4 (by omega)).mono ?_
    rintro e u5 ⟨a5, c5, ys, t5, rfl, yl, O5, yw, S5, ht5, Y5⟩
    have O25 := own_only O24 Y5 (by omega)
    have hc5 := own_caps O5
    have P1 := has_of_own O25 XW.out
    have P2 := has_of_own O5 yw
    have W5 := AS (N4.trans Y5)
    clear yw AS
    go_wp2
    exact bodyPost_ret (v := .tuple #[.slice a2 xs.length c2, .slice a5 ys.length c5]) (by simp [results, Tryd.results30, go_sem]) rfl ⟨a2, c2, xs, a5, c5, ys, rfl, xl, yl, hc2, hc5, P1, P2, W5⟩
  · have d0b : (q == 0) = false := by simpa using d0
    clear d0
    have hc3 := own_caps O34
    have P1 := has_of_own O24 XW.out
    have P2 := has_of_own O34 XW.out
    by_cases d1 : q = 1
    · have d1b : (q == 1) = true := by simpa using d1
      clear d1
      by_cases e0 : xs.length = 0
      · have e0' : ¬ (0 : Int) < (xs.length : Int) := by omega
        have W4 := AS N4
        clear AS e0
        go_wp2
        exact bodyPost_ret (v := .tuple #[.slice a2 xs.length c2, .slice a3 xs.length c3]) (by simp [results, Tryd.results30, go_sem]) rfl ⟨a2, c2, xs, a3, c3, xs, rfl, xl, xl, hc2, hc3, P1, P2, W4⟩
      · have e0' : (0 : Int) < (xs.length : Int) := by omega
        obtain ⟨g6, c6', hg6, hg1, hg2, hg3, hg4⟩ := own_form6 O34 (by omega)
        simp only [Value.slice.injEq] at hg6
        obtain ⟨rfl, _, rfl⟩ := hg6
        clear P1 P2
        go_wp2_with fail
        refine (next_wide _ _ _ a len cap zs _ 65521 S4 (by omega) (by omega) (by omega)).mono ?_
        rintro e u9 ⟨v, rfl, v0, v1, S9, Y9⟩
        have z9 := Y9.size
        have N9 := N4.trans Y9
        have O29 := own_only O24 Y9 (by omega)
        have O39 := own_only O34 Y9 (by omega)
        have x1 := (O39.cellAt 0 (by omega)).trans (show (xs.map (Value.int .i64))[0]? = some (.int .i64 (xs.getD 0 0)) by rw [List.getElem?_map, List.getElem?_eq_getElem (show 0 < xs.length by omega)]; simp [List.getD, List.getElem?_eq_getElem (show 0 < xs.length by omega)])
        have x2 := O39.frozenAt 0
        have O3s := (O39.stored 0 (.int .i64 v)).1
        have OS : Only g6 u9 (u9.setCell ⟨g6, 0, none⟩ (.int .i64 v)) := (Only.refl g6 u9).store _
        have NS := N9.storeNew (b := g6) (o := 0) (by omega) (.int .i64 v)
        have O3t : (u9.setCell ⟨g6, 0, none⟩ (.int .i64 v)).ownsRow u2.heap.size 2 1 (.slice (some ⟨g6, 0, none⟩) xs.length c3) xs.length ((xs.set 0 v).map (.int .i64)) := by rw [List.map_set]; exact O3s
        have wfs : ∀ y ∈ xs.set 0 v, (Lit.int .i64 y).wf = true := fun y hy => by rcases List.mem_or_eq_of_mem_set hy with c | c; exact XW.out y c; rw [c]; exact WalkArith.wf_i64 (by omega)
        have lset : (xs.set 0 v).length = xs.length := List.length_set
        have W9 := AS NS
        have P2 := has_of_own O3t wfs
        have O2s := own_fr O29 (M := fun k => k = g6) (Fr.setCell (Fr.refl _ u9) ⟨g6, 0, none⟩ (.int .i64 v) rfl) (fun g e1 e2 => by have hq := HQ.out g e1; omega)
        have P1 := has_of_own O2s XW.out
        have E1H : Kept6 (Has (u9.setCell ⟨g6, 0, none⟩ (.int .i64 v)) .i64 a2 xs.length xs) := ⟨P1⟩
        have E2H : Kept6 (Has (u9.setCell ⟨g6, 0, none⟩ (.int .i64 v)) .i64 (some ⟨g6, 0, none⟩) (xs.set 0 v).length (xs.set 0 v)) := ⟨P2⟩
        have E4H : Kept6 (Below w.heap.size w (u9.setCell ⟨g6, 0, none⟩ (.int .i64 v))) := ⟨W9⟩
        have E5H : Kept6 ((xs.set 0 v).length = xs.length) := ⟨lset⟩
        clear O3s OS NS O3t wfs lset W9 P1 P2 O2s O29 O39 O24 O34 S9 S4 N9 N4 AS
        go_wp2
        refine bodyPost_ret (v := .tuple #[.slice a2 xs.length c2, .slice (some ⟨g6, 0, none⟩) xs.length c3]) (by simp [results, Tryd.results30, go_sem]) rfl ⟨a2, c2, xs, some ⟨g6, 0, none⟩, c3, xs.set 0 v, ?_, xl, ?_, hc2, ⟨?_, hg4⟩, E1H.out, E2H.out, E4H.out⟩
        · rw [E5H.out]
        · rw [E5H.out]; exact xl
        · rw [E5H.out]; omega
    · have d1b : (q == 1) = false := by simpa using d1
      clear d1
      have W4 := AS N4
      clear AS
      go_wp2
      exact bodyPost_ret (v := .tuple #[.slice a2 xs.length c2, .slice a3 xs.length c3]) (by simp [results, Tryd.results30, go_sem]) rfl ⟨a2, c2, xs, a3, c3, xs, rfl, xl, xl, hc2, hc3, P1, P2, W4⟩

end Go.Proofs.YtklhkhlmhddmcaaDoor

namespace Go.Proofs.YtklhkhlmhddmcaaDoor
open Go.ChangeShapes Go.WideShapes Go.ChangeAt Go.RowKit
set_option linter.unusedVariables false
set_option linter.unusedSimpArgs false

theorem PcsAt.fr {M : Nat → Prop} {w w' : World} {base : Nat} {v : Value} {rs : List Pc} (h : PcsAt w base v rs) (hf : Fr M w w') (h1 : ∀ g, v.ownBlock = some g → ¬ M g) (h2 : ∀ r ∈ rs, ∀ g, (Value.slice r.ad r.zs.length r.cap).ownBlock = some g → ¬ M g) : PcsAt w' base v rs :=
  ⟨own_fr h.out hf h1, fun r hr => own_fr (h.row r hr) hf (h2 r hr), h.wf⟩
/-- A block of slices of bytes that turns: lists that lie elsewhere are as they were. -/
theorem PcsAt.other {w : World} {base g k : Nat} {v u : Value} {rs : List Pc} (h : PcsAt w base v rs) (hg : ∃ cs, w.heap[g]? = some (.cells cs 22 (0, 0))) (hv : ∀ g', v.ownBlock = some g' → g' ≠ g) : PcsAt (w.setCell ⟨g, k, none⟩ u) base v rs := by
  obtain ⟨cs, hg⟩ := hg
  refine h.fr (M := fun b => b = g) (Fr.setCell (Fr.refl _ _) ⟨g, k, none⟩ u rfl) (fun g' e1 e2 => hv g' e1 e2) (fun r hr g' e1 e2 => ?_)
  obtain ⟨c2, e3⟩ := own_cells (h.row r hr) e1
  rw [e2, hg] at e3
  simp at e3
theorem PcsAt.set {w : World} {base g k n c : Nat} {rs : List Pc} {r : Pc} (h : PcsAt w base (.slice (some ⟨g, 0, none⟩) n c) rs) (hn : n = rs.length) (hk : k < rs.length) (hr : World.ownsRow (w) (base) 5 1 (.slice (r).ad (r).zs.length (r).cap) (r).zs.length ((r).zs.map (.int .u8))) (hw : ∀ n ∈ r.zs, (Lit.int .u8 n).wf = true) : PcsAt (w.setCell ⟨g, k, none⟩ (.slice r.ad r.zs.length r.cap)) base (.slice (some ⟨g, 0, none⟩) n c) (rs.set k r) := by
  subst hn
  have hg : (Value.slice (some (⟨g, 0, none⟩ : Addr)) rs.length c).ownBlock = some g := rfl
  have hf : Fr (fun b => b = g) w (w.setCell ⟨g, k, none⟩ (.slice r.ad r.zs.length r.cap)) := Fr.setCell (Fr.refl _ _) ⟨g, k, none⟩ _ rfl
  refine ⟨?_, fun x hx => ?_, fun x hx => ?_⟩
  · rw [List.length_set, List.map_set]
    exact (h.out.stored k _).1
  · rcases List.mem_or_eq_of_mem_set hx with hx | rfl
    · exact own_fr (h.row x hx) hf (fun g' e1 e2 => rows_apart h.out (h.row x hx) hg e1 e2)
    · exact own_fr hr hf (fun g' e1 e2 => rows_apart h.out hr hg e1 e2)
  · rcases List.mem_or_eq_of_mem_set hx with hx | rfl
    · exact h.wf x hx
    · exact hw

set_option maxHeartbeats 8000000 in
set_option maxRecDepth 100000 in
theorem l6Like_any (w : World) (B s : Nat) (a : Option Addr) (len cap : Nat) (zs : List Int) (t : Nat) (h : SrcAt (w) B s a len cap zs (t)) (ht : t ≤ 500) :
    Calls Tryd.prog 51 #[.pointer (some ⟨s, 0, none⟩)] w fun e w' => ∃ (a1 : Option Addr) (c1 : Nat) (rs : List Pc) (a2 : Option Addr) (c2 : Nat) (qs : List Pc) (t' : Nat), e = .returned (.tuple #[.slice a1 rs.length c1, .slice a2 qs.length c2]) ∧ rs.length ≤ 8 ∧ qs.length = rs.length ∧ (∀ r ∈ rs, r.zs.length ≤ 10) ∧ (∀ r ∈ qs, r.zs.length ≤ 10) ∧ PcsAt w' w.heap.size (.slice a1 rs.length c1) rs ∧ PcsAt w' w.heap.size (.slice a2 qs.length c2) qs ∧ (∀ g1 g2, (Value.slice a1 rs.length c1).ownBlock = some g1 → (Value.slice a2 qs.length c2).ownBlock = some g2 → g1 ≠ g2) ∧ SrcAt (w') B s a len cap zs (t') ∧ t' ≤ t + 100 ∧ Only s w w' := by
  obtain ⟨i0, hi, hz0, hz1, hz2⟩ := info_parts infoSS
  have hlt := h.lt
  go_enter Tryd.func51, Tryd.ntmps51
  go_wp2_with fail
  refine (l6Draw_any w B s a len cap zs t h (by omega)).mono ?_
  rintro e u1 ⟨a1, c1, rs, t1, rfl, l8, sm, P1, S1, ht1, Y1⟩
  have z1 := Y1.size
  have SM : Kept6 (∀ r ∈ rs, r.zs.length ≤ 4) := ⟨sm⟩
  have HP := P1.has.2.2.2
  have lo1 : Kept6 (∀ g, (Value.slice a1 rs.length c1).ownBlock = some g → g < u1.heap.size) := ⟨fun g hg => own_lt2 P1.out hg⟩
  have K1 : Kept6 (∀ wx : World, Below u1.heap.size u1 wx → PcsAt wx w.heap.size (.slice a1 rs.length c1) rs ∧ HasP wx a1 rs ∧ SrcAt (wx) B s a len cap zs (t1)) := ⟨fun wx hb => ⟨P1.below hb, HP.below hb (Nat.le_refl _), S1.below hb⟩⟩
  have hown0 : (u1.alloc (.cells #[] 22)).ownsRow u1.heap.size 22 1 (.slice (some ⟨u1.heap.size, 0, none⟩) 0 0) 0 ((([] : List Pc)).map fun r : Pc => Value.slice r.ad r.zs.length r.cap) := World.ownsRow_lit u1 #[] 0 (Nat.le_refl _) (Nat.zero_le _) rfl
  have Q0 : PcsAt (u1.alloc (.cells #[] 22)) u1.heap.size (.slice (some ⟨u1.heap.size, 0, none⟩) 0 0) [] := ⟨hown0, by simp, by simp⟩
  have B0 : Below u1.heap.size u1 (u1.alloc (.cells #[] 22)) := (Below.refl _ _).alloc (Nat.le_refl _) _
  have YK : Kept6 (Only s w u1) := ⟨Y1⟩
  clear sm P1 S1 Y1 HP hown0 h
  go_wp2
  go_loopw [5, 6] (fun v i wr => ∃ (qs : List Pc), i = .int .i64 qs.length ∧ qs.length ≤ rs.length ∧ (∀ r ∈ qs, r.zs.length ≤ 4) ∧ PcsAt wr u1.heap.size v qs ∧ Below u1.heap.size u1 wr) (fun _ i _ => rs.length - (intOf i).toNat)
  case atStart => exact ⟨[], rfl, Nat.zero_le _, by simp, Q0, B0⟩
  case round =>
    clear Q0 B0
    obtain ⟨qs, rfl, hql, hqs, hQ, hB⟩ := hrel
    obtain ⟨va, vc, rfl⟩ := hQ.shape
    have QS : Kept6 (∀ r ∈ qs, r.zs.length ≤ 4) := ⟨hqs⟩
    have zB := hB.size
    clear hqs
    by_cases hlt2 : qs.length < rs.length
    · have hlt' : (qs.length : Int) < (rs.length : Int) := by omega
      obtain ⟨_, hH, _⟩ := K1.out _ hB
      obtain ⟨b1, o1, hx1, hb1, hc1⟩ : ∃ b off, a1 = some ⟨b, off, none⟩ ∧ b < wr.heap.size ∧ ∀ i (h : i < rs.length), wr.cell? ⟨b, off + i, none⟩ = some (.slice rs[i].ad rs[i].zs.length rs[i].cap) := by
        rcases hH.1 with c | h
        · omega
        · exact h
      subst hx1
      have e1 := hc1 qs.length hlt2
      have hr := hH.2 rs[qs.length] (List.getElem_mem hlt2)
      have hrl := SM.out rs[qs.length] (List.getElem_mem hlt2)
      have CP : Kept6 (∀ u : World, Below wr.heap.size wr u → Calls Tryd.prog 96 #[.slice rs[qs.length].ad rs[qs.length].zs.length rs[qs.length].cap] u fun r w' => ∃ a' c', r = .returned (.slice a' rs[qs.length].zs.length c') ∧ w'.ownsRow u.heap.size 5 1 (.slice a' rs[qs.length].zs.length c') rs[qs.length].zs.length (rs[qs.length].zs.map (.int .u8)) ∧ Below u.heap.size u w') := ⟨fun u hu => copy_shape _ _ _ u (hr.1.below hu (Nat.le_refl _)) (by omega)⟩
      have RW : Kept6 (∀ n ∈ rs[qs.length].zs, (Lit.int .u8 n).wf = true) := ⟨hr.1.2.1⟩
      clear hH hc1 hr
      generalize rs[qs.length] = r1 at *
      have O0 := hQ.out
      go_wp2_with fail
      refine (CP.out _ (by first | exact Below.refl _ _ | exact below_drewN (Below.refl _ _) _)).mono ?_
      rintro e u2 ⟨a2, c2, rfl, O2, hb2⟩
      have hb2' : Below wr.heap.size wr u2 := by first | exact hb2 | exact (below_drewN (Below.refl wr.heap.size wr) _).trans hb2
      have z2 := hb2'.size
      have Q2 := hQ.below hb2'
      have R2 : Kept6 (World.ownsRow (u2) (u1.heap.size) 5 1 (.slice ((⟨a2, c2, r1.zs⟩ : Pc)).ad ((⟨a2, c2, r1.zs⟩ : Pc)).zs.length ((⟨a2, c2, r1.zs⟩ : Pc)).cap) ((⟨a2, c2, r1.zs⟩ : Pc)).zs.length (((⟨a2, c2, r1.zs⟩ : Pc)).zs.map (.int .u8))) := ⟨own_mono O2 (by first | omega | (simp; omega))⟩
      have B2 := hB.trans (hb2'.mono zB)
      have O3 := Q2.out
      clear hb2 hb2' hQ O2 CP e1
      go_wp2_with (at_builtin; refine wpList_append_own _ rfl _ _ 24 rfl u1.heap.size 22 i0 (.slice none 0 0) 1 24 Tryd.underlying24 hi hz0 hz1 hz2 rfl (by decide) _ _ _ rfl (O3.alloc _) ⟨u2.heap.size, 0, none⟩ 1 1 [(.slice a2 r1.zs.length c2)] rfl rfl (one_new _ _ _) (by intro u hu; simp at hu; subst hu; rfl) (by unfold maxLen; omega) (by omega) (by simp; omega) ?_; intro v' w3 hown3 hgrow _h4)
      have hbel : Below u1.heap.size (u2.alloc (.cells #[.slice a2 r1.zs.length c2] 22)) w3 := (Below.refl _ _).grown hgrow (by simp; omega) (fun k hk => (O3.lt k hk).1)
      have bA : Below u2.heap.size u2 (u2.alloc (.cells #[.slice a2 r1.zs.length c2] 22)) := (Below.refl _ _).alloc (Nat.le_refl _) _
      have Q4 := PcsAt.app (Q2.below bA) (r := ⟨a2, c2, r1.zs⟩) (own_below R2.out bA) RW.out hown3 hgrow
      have B4 := (B2.alloc (by omega) (.cells #[.slice a2 r1.zs.length c2] 22)).trans hbel
      have KH : Kept6 (PcsAt w3 u1.heap.size v' (qs ++ [⟨a2, c2, r1.zs⟩])) := ⟨Q4⟩
      have BH : Kept6 (Below u1.heap.size u1 w3) := ⟨B4⟩
      clear hgrow hown3 _h4 hbel bA O3 Q2 Q4 B2 B4 R2 hB O0
      go_wp2
      go_roundw
      case rel => exact ⟨qs ++ [⟨a2, c2, r1.zs⟩], by simp, by simp; omega, by intro r hr; simp at hr; rcases hr with hr | rfl; exact QS.out r hr; show r1.zs.length ≤ 4; omega, KH.out, BH.out⟩
      case measure => simp [intOf]; omega
    · have hqq : qs.length = rs.length := by omega
      have hlt' : ¬ (rs.length : Int) < (rs.length : Int) := by omega
      obtain ⟨P2, _, S2⟩ := K1.out _ hB
      have N2 := YK.out.trans (.of_below hB)
      have lo2 : Kept6 (∀ g, (Value.slice va rs.length vc).ownBlock = some g → u1.heap.size ≤ g) := ⟨fun g hg => by have := (hQ.out.lt g (by rw [hqq]; exact hg)).1; exact this⟩
      have HQ2 : Kept6 (PcsAt wr u1.heap.size (.slice va rs.length vc) qs) := ⟨by rw [← hqq]; exact hQ⟩
      have hq6 : Kept6 (qs.length = rs.length) := ⟨hqq⟩
      rw [hqq]
      clear hQ hqq hlt2 hql
      by_cases hr0 : rs.length = 0
      · have hr0' : ¬ (0 : Int) < (rs.length : Int) := by omega
        clear hr0
        go_wp2
        refine bodyPost_ret (v := .tuple #[.slice a1 rs.length c1, .slice va rs.length vc]) (by simp [results, Tryd.results51, go_sem]) rfl ?_
        have AP : ∀ g1 g2, (Value.slice a1 rs.length c1).ownBlock = some g1 → (Value.slice va qs.length vc).ownBlock = some g2 → g1 ≠ g2 := by
          intro g1 g2 e1 e2
          rw [hq6.out] at e2
          have h1 := lo1.out g1 e1
          have h2 := lo2.out g2 e2
          omega
        have Q7 : PcsAt wr w.heap.size (.slice va qs.length vc) qs := by rw [hq6.out]; exact HQ2.out.mono z1
        have b1 : ∀ r ∈ rs, r.zs.length ≤ 10 := fun r hr => by have := SM.out r hr; omega
        have b2 : ∀ r ∈ qs, r.zs.length ≤ 10 := fun r hr => by have := QS.out r hr; omega
        exact ⟨a1, c1, rs, va, vc, qs, by rw [hq6.out], l8, hq6.out, b1, b2, P2, Q7, AP, t1, S2, by omega, N2⟩
      · have hr0' : (0 : Int) < (rs.length : Int) := by omega
        go_wp2_with fail
        refine (chance_any _ B s a len cap zs t1 2 S2 (by omega) (by omega) (by omega)).mono ?_
        rintro e u3 ⟨bv, rfl, S3, Y3⟩
        have z3 := Y3.size
        have P3 := P2.only Y3 hlt
        have Q3 := HQ2.out.only Y3 (by omega)
        have N3 := N2.trans Y3
        clear P2 S2 N2 Y3
        cases bv with
        | false =>
          go_wp2
          refine bodyPost_ret (v := .tuple #[.slice a1 rs.length c1, .slice va rs.length vc]) (by simp [results, Tryd.results51, go_sem]) rfl ⟨a1, c1, rs, va, vc, qs, t1 + 1, by rw [hq6.out], l8, hq6.out, fun r hr => by have := SM.out r hr; omega, fun r hr => by have := QS.out r hr; omega, P3, by rw [hq6.out]; exact Q3.mono z1, ?_, S3, by omega, N3⟩
          intro g1 g2 e1 e2
          rw [hq6.out] at e2
          have h1 := lo1.out g1 e1
          have h2 := lo2.out g2 e2
          omega
        | true =>
          go_wp2_with fail
          refine (pair_any _ B s a len cap zs _ S3 (by omega)).mono ?_
          rintro e u4 ⟨p1, p2, d1, d2, xs, ys, rfl, OX, OY, wx, wy, lx, ly, ⟨t4, ht4, S4⟩, Y4⟩
          have z4 := Y4.size
          have P4 := P3.only Y4 hlt
          have Q4 := Q3.only Y4 (by omega)
          have N4 := N3.trans Y4
          have aV : Below u4.heap.size u4 (u4.alloc (.cells #[.bool true, .slice p1 xs.length d1, .slice p2 ys.length d2] 29)) := (Below.refl _ _).alloc (Nat.le_refl _) _
          have SV := S4.below aV
          clear P3 Q3 S3 N3 Y4
          go_wp2_with fail
          refine (next_wide _ B s a len cap zs t4 rs.length SV (by omega) (by omega) (by omega)).mono ?_
          rintro e u5 ⟨k, rfl, k0, k1, S5, Y5⟩
          obtain ⟨j, rfl⟩ := Int.eq_ofNat_of_zero_le k0
          have z5 := Y5.size
          simp at z5
          have P5 := (P4.below aV).only Y5 hlt
          have Q5 := (Q4.below aV).only Y5 (by omega)
          have N5 := (N4.alloc _).trans Y5
          have c1' := (Y5.cell (b := u4.heap.size) (o := 1) (by simp) (by omega)).trans (show _ = some (.slice p1 xs.length d1) by simp [go_sem])
          have c2' := (Y5.cell (b := u4.heap.size) (o := 2) (by simp) (by omega)).trans (show _ = some (.slice p2 ys.length d2) by simp [go_sem])
          have RX : Kept6 (World.ownsRow (u5) (u1.heap.size) 5 1 (.slice ((⟨p1, d1, xs⟩ : Pc)).ad ((⟨p1, d1, xs⟩ : Pc)).zs.length ((⟨p1, d1, xs⟩ : Pc)).cap) ((⟨p1, d1, xs⟩ : Pc)).zs.length (((⟨p1, d1, xs⟩ : Pc)).zs.map (.int .u8))) := ⟨own_only (own_below (own_mono OX (by omega)) aV) Y5 (by omega)⟩
          have RY : Kept6 (World.ownsRow (u5) (u1.heap.size) 5 1 (.slice ((⟨p2, d2, ys⟩ : Pc)).ad ((⟨p2, d2, ys⟩ : Pc)).zs.length ((⟨p2, d2, ys⟩ : Pc)).cap) ((⟨p2, d2, ys⟩ : Pc)).zs.length (((⟨p2, d2, ys⟩ : Pc)).zs.map (.int .u8))) := ⟨own_only (own_below (own_mono OY (by omega)) aV) Y5 (by omega)⟩
          clear P4 Q4 S4 SV N4 Y5 OX OY aV
          obtain ⟨g1, c1x, hg1, hb1, hb2, hb3, hb4⟩ := own_form6 P5.out (by omega)
          simp only [Value.slice.injEq] at hg1
          obtain ⟨rfl, _, rfl⟩ := hg1
          have hql := hq6.out
          obtain ⟨g2, c2x, hg2, hd1, hd2, hd3, hd4⟩ := own_form6 Q5.out (by omega)
          simp only [Value.slice.injEq] at hg2
          obtain ⟨rfl, _, rfl⟩ := hg2
          have g12 : g1 ≠ g2 := by have := lo1.out g1 rfl; have := lo2.out g2 rfl; omega
          have hj : (j : Int) < rs.length := by omega
          have hjq : j < qs.length := by rw [hql]; omega
          have hjr : j < rs.length := by omega
          have x1 := (P5.out.cellAt j (by omega)).trans (show ((rs).map fun r : Pc => Value.slice r.ad r.zs.length r.cap)[j]? = some (.slice (rs.getD j ⟨none, 0, []⟩).ad (rs.getD j ⟨none, 0, []⟩).zs.length (rs.getD j ⟨none, 0, []⟩).cap) by rw [List.getElem?_map, List.getElem?_eq_getElem (show j < rs.length by omega)]; simp [List.getD, List.getElem?_eq_getElem (show j < rs.length by omega)])
          have x2 := P5.out.frozenAt j
          have Q5' : PcsAt u5 u1.heap.size (.slice (some ⟨g2, 0, none⟩) qs.length vc) qs := by rw [hql]; exact Q5
          have y1 := (Q5'.out.cellAt j (by omega)).trans (show ((qs).map fun r : Pc => Value.slice r.ad r.zs.length r.cap)[j]? = some (.slice (qs.getD j ⟨none, 0, []⟩).ad (qs.getD j ⟨none, 0, []⟩).zs.length (qs.getD j ⟨none, 0, []⟩).cap) by rw [List.getElem?_map, List.getElem?_eq_getElem (show j < qs.length by omega)]; simp [List.getD, List.getElem?_eq_getElem (show j < qs.length by omega)])
          have y2 := Q5'.out.frozenAt j
          have z1x : g1 < u4.heap.size := by have := lo1.out g1 rfl; omega
          have A1 := P5.set (k := j) (r := ⟨p1, d1, xs⟩) rfl (by omega) (own_mono RX.out z1) wx
          have A2 := Q5.other (g := g1) (k := j) (u := .slice p1 xs.length d1) (own_cells P5.out rfl) (fun g' e => by simp [Value.ownBlock] at e; omega)
          have RY2 : Kept6 (World.ownsRow (u5.setCell ⟨g1, j, none⟩ (.slice p1 xs.length d1)) (u1.heap.size) 5 1 (.slice ((⟨p2, d2, ys⟩ : Pc)).ad ((⟨p2, d2, ys⟩ : Pc)).zs.length ((⟨p2, d2, ys⟩ : Pc)).cap) ((⟨p2, d2, ys⟩ : Pc)).zs.length (((⟨p2, d2, ys⟩ : Pc)).zs.map (.int .u8))) := ⟨own_fr RY.out (M := fun b => b = g1) (Fr.setCell (Fr.refl _ _) ⟨g1, j, none⟩ _ rfl) (fun g e1 e2 => rows_apart P5.out RY.out rfl e1 e2)⟩
          have A3 := A1.other (g := g2) (k := j) (u := .slice p2 ys.length d2) (own_cells A2.out rfl) (fun g' e => by simp [Value.ownBlock] at e; omega)
          have A4 := A2.set (k := j) (r := ⟨p2, d2, ys⟩) hql.symm (by omega) RY2.out wy
          have N7 := (N5.storeNew (b := g1) (o := j) (by have := hb1; omega) (.slice p1 xs.length d1)).storeNew (b := g2) (o := j) (by omega) (.slice p2 ys.length d2)
          have S7 : SrcAt ((u5.setCell ⟨g1, j, none⟩ (.slice p1 xs.length d1)).setCell ⟨g2, j, none⟩ (.slice p2 ys.length d2)) B s a len cap zs (t4 + 1) := S5.below' (((Below.refl (s + 1) u5).setCell (show s + 1 ≤ g1 by omega) _).setCell (show s + 1 ≤ g2 by omega) _) (by omega)
          have E1 : Kept6 (PcsAt ((u5.setCell ⟨g1, j, none⟩ (.slice p1 xs.length d1)).setCell ⟨g2, j, none⟩ (.slice p2 ys.length d2)) w.heap.size (.slice (some ⟨g1, 0, none⟩) rs.length c1) (rs.set j ⟨p1, d1, xs⟩)) := ⟨A3⟩
          have E2 : Kept6 (PcsAt ((u5.setCell ⟨g1, j, none⟩ (.slice p1 xs.length d1)).setCell ⟨g2, j, none⟩ (.slice p2 ys.length d2)) w.heap.size (.slice (some ⟨g2, 0, none⟩) rs.length vc) (qs.set j ⟨p2, d2, ys⟩)) := ⟨A4.mono z1⟩
          have E3 : Kept6 (SrcAt ((u5.setCell ⟨g1, j, none⟩ (.slice p1 xs.length d1)).setCell ⟨g2, j, none⟩ (.slice p2 ys.length d2)) B s a len cap zs (t4 + 1)) := ⟨S7⟩
          have E4 : Kept6 (Only s w ((u5.setCell ⟨g1, j, none⟩ (.slice p1 xs.length d1)).setCell ⟨g2, j, none⟩ (.slice p2 ys.length d2))) := ⟨N7⟩
          have W12 : Kept6 ((rs.set j ⟨p1, d1, xs⟩).length = rs.length ∧ (qs.set j ⟨p2, d2, ys⟩).length = rs.length) := ⟨by simp [hql]⟩
          clear A1 A2 A3 A4 N7 S7 S5 N5 P5 Q5 Q5' wx wy hql RX RY RY2
          go_wp2
          refine bodyPost_ret (v := .tuple #[.slice (some ⟨g1, 0, none⟩) rs.length c1, .slice (some ⟨g2, 0, none⟩) rs.length vc]) (by simp [results, Tryd.results51, go_sem, hq6.out]) rfl ⟨_, c1, rs.set j ⟨p1, d1, xs⟩, _, vc, qs.set j ⟨p2, d2, ys⟩, t4 + 1, by rw [W12.out.1, W12.out.2], by rw [W12.out.1]; exact l8, by rw [W12.out.1, W12.out.2], ?_, ?_, by rw [W12.out.1]; exact E1.out, by rw [W12.out.2]; exact E2.out, ?_, E3.out, by omega, E4.out⟩
          · intro r hr
            rcases List.mem_or_eq_of_mem_set hr with hr | rfl
            · have := SM.out r hr; omega
            · exact lx
          · intro r hr
            rcases List.mem_or_eq_of_mem_set hr with hr | rfl
            · have := QS.out r hr; omega
            · exact ly
          · intro x y e1 e2
            simp [Value.ownBlock] at e1 e2
            omega

end Go.Proofs.YtklhkhlmhddmcaaDoor

namespace Go.Proofs.YtklhkhlmhddmcaaDoor
open Go.ChangeShapes Go.WideShapes Go.ChangeAt Go.RowKit
set_option linter.unusedVariables false
set_option linter.unusedSimpArgs false

set_option maxHeartbeats 4000000 in
set_option maxRecDepth 100000 in
theorem drawPieceClash_any (w : World) (a : Option Addr) (len cap : Nat) (zs : List Int) (h : Has w .u8 a len zs) (hl : len ≤ 1048576) :
    Calls Tryd.prog 28 #[.slice a len cap] w fun e w' => ∃ (a1 : Option Addr) (c1 : Nat) (rs : List Pc) (a2 : Option Addr) (c2 : Nat) (qs : List Pc), e = .returned (.tuple #[.slice a1 rs.length c1, .slice a2 qs.length c2]) ∧ rs.length ≤ 30 ∧ qs.length ≤ 30 ∧ (∀ r ∈ rs, r.zs.length ≤ 300) ∧ (∀ r ∈ qs, r.zs.length ≤ 300) ∧ HasP w' a1 rs ∧ HasP w' a2 qs ∧ Below w.heap.size w w' := by
  obtain ⟨i0, hi, hz0, hz1, hz2⟩ := info_parts infoSS
  go_enter Tryd.func28, Tryd.ntmps28
  go_wp2_with fail
  refine (source_any _ a len cap zs h hl).mono ?_
  rintro e u1 ⟨rfl, S1, hb1, hs1⟩
  obtain ⟨u0, hu0⟩ : ∃ u0, u0 = w.heap.size := ⟨_, rfl⟩
  have AS : ∀ {w2 : World}, Only u0 u1 w2 → Below w.heap.size w w2 := fun {w2} ho => after_source hb1 (by rw [← hu0]; exact ho)
  rw [← hu0] at S1 hs1 ⊢
  clear hu0
  go_wp2_with fail
  refine (l6Like_any _ _ _ a len cap zs 0 S1 (by omega)).mono ?_
  rintro e u2 ⟨a1, c1, rs, a2, c2, qs, t2, rfl, l8, lq, sm, sq, P2, Q2, AP, S2, ht2, Y2⟩
  have z2 := Y2.size
  have LQ : Kept6 (qs.length = rs.length) := ⟨lq⟩
  have SM : Kept6 (∀ r ∈ rs, r.zs.length ≤ 10) := ⟨sm⟩
  have SQ : Kept6 (∀ r ∈ qs, r.zs.length ≤ 10) := ⟨sq⟩
  have l8q : qs.length ≤ 8 := by omega
  clear lq sm sq
  go_wp2_with fail
  refine (next_any _ _ _ a len cap zs _ 8 S2 (by omega) (by omega) (by omega)).mono ?_
  rintro e u3 ⟨q, rfl, q0, q1, S3, Y3⟩
  have z3 := Y3.size
  have P3 := P2.only Y3 hs1
  have Q3 := Q2.only Y3 hs1
  have N3 := Y2.trans Y3
  clear P2 Q2 S2 Y2 Y3
  by_cases d0 : q = 0
  · have d0b : (q == 0) = true := by simpa using d0
    clear d0
    have O3 := Q3.out
    have NW : ∀ (j : Nat) (u : Value), [Value.slice (some ⟨u3.heap.size, 0, none⟩) 1 1][j]? = some u → ((u3.alloc (.cells #[.int .u8 1] 5)).alloc (.cells #[.slice (some ⟨u3.heap.size, 0, none⟩) 1 1] 22)).cell? ((⟨u3.heap.size + 1, 0, none⟩ : Addr).add j) = some u := by
      have := one_new (u3.alloc (.cells #[.int .u8 1] 5)) (.slice (some ⟨u3.heap.size, 0, none⟩) 1 1) 22
      simpa using this
    have NWH : Kept6 _ := ⟨NW⟩
    clear NW
    go_wp2_with (at_builtin; refine wpList_append_own _ rfl _ _ 24 rfl u1.heap.size 22 i0 (.slice none 0 0) 1 24 Tryd.underlying24 hi hz0 hz1 hz2 rfl (by decide) _ _ _ rfl ((O3.alloc _).alloc _) ⟨u3.heap.size + 1, 0, none⟩ 1 1 [(.slice (some ⟨u3.heap.size, 0, none⟩) 1 1)] rfl rfl NWH.out (by intro u hu; simp at hu; subst hu; rfl) (by unfold maxLen; omega) (by omega) (by simp; omega) ?_; intro v' w3 hown3 hgrow _h4)
    have bA : Below u3.heap.size u3 (u3.alloc (.cells #[.int .u8 1] 5)) := (Below.refl _ _).alloc (Nat.le_refl _) _
    have bB : Below u3.heap.size u3 ((u3.alloc (.cells #[.int .u8 1] 5)).alloc (.cells #[.slice (some ⟨u3.heap.size, 0, none⟩) 1 1] 22)) := bA.alloc (by simp) _
    have R1 : (u3.alloc (.cells #[.int .u8 1] 5)).ownsRow u1.heap.size 5 1 (.slice (some ⟨u3.heap.size, 0, none⟩) 1 1) 1 [.int .u8 1] := World.ownsRow_lit u3 #[.int .u8 1] 1 (by omega) (by unfold maxLen; omega) rfl
    have R2 := own_below R1 ((Below.refl _ _).alloc (Nat.le_refl _) (.cells #[.slice (some ⟨u3.heap.size, 0, none⟩) 1 1] 22))
    have Q4 := PcsAt.app (Q3.below bB) (r := ⟨some ⟨u3.heap.size, 0, none⟩, 1, [1]⟩) R2 (by intro n hn; simp at hn; subst hn; rfl) hown3 hgrow
    have P4 := (P3.below bB).fr (M := fun k => (Value.slice a2 qs.length c2).ownBlock = some k) (.of_grown hgrow (fun k e => e)) (fun g e1 e2 => AP g g e1 e2 rfl) (fun r hr g e1 e2 => rows_apart Q3.out (P3.row r hr) e2 e1 rfl)
    have bC : Below u1.heap.size ((u3.alloc (.cells #[.int .u8 1] 5)).alloc (.cells #[.slice (some ⟨u3.heap.size, 0, none⟩) 1 1] 22)) w3 := (Below.refl _ _).grown hgrow (by simp; omega) (fun k hk => (O3.lt k hk).1)
    have N4 := ((N3.alloc _).alloc _).then_below bC
    obtain ⟨v1, v2, rfl⟩ := Q4.shape
    have hP := P4.has
    have hQ := Q4.has
    have W4 := AS N4
    have lz : (qs ++ [(⟨some ⟨u3.heap.size, 0, none⟩, 1, [1]⟩ : Pc)]).length = qs.length + 1 := by simp
    have E1 : Kept6 (HasP w3 a1 rs) := ⟨hP.2.2.2⟩
    have E2 : Kept6 (HasP w3 v1 (qs ++ [(⟨some ⟨u3.heap.size, 0, none⟩, 1, [1]⟩ : Pc)])) := ⟨hQ.2.2.2⟩
    have E3 : Kept6 (Below w.heap.size w w3) := ⟨W4⟩
    have E4 : Kept6 ((qs ++ [(⟨some ⟨u3.heap.size, 0, none⟩, 1, [1]⟩ : Pc)]).length = qs.length + 1) := ⟨lz⟩
    clear hgrow hown3 _h4 bA bB bC R1 R2 P4 Q4 P3 Q3 N3 N4 S3 O3 hP hQ W4 lz AS AP
    go_wp2
    refine bodyPost_ret (v := .tuple #[.slice a1 rs.length c1, .slice v1 (qs.length + 1) v2]) (by simp [results, Tryd.results28, go_sem]) rfl ?_
    refine ⟨a1, c1, rs, v1, v2, qs ++ [(⟨some ⟨u3.heap.size, 0, none⟩, 1, [1]⟩ : Pc)], by rw [E4.out], by omega, by rw [E4.out]; omega, fun r hr => by have := SM.out r hr; omega, ?_, E1.out, E2.out, E3.out⟩
    intro r hr
    simp at hr
    rcases hr with hr | rfl
    · have := SQ.out r hr; omega
    · simp
  · have d0b : (q == 0) = false := by simpa using d0
    clear d0
    by_cases d1 : q = 1
    · have d1b : (q == 1) = true := by simpa using d1
      clear d1
      go_wp2_with fail
      refine (l6Bent_any _ _ _ a len cap zs _ S3 (by omega)).mono ?_
      rintro e u4 ⟨a4, c4, ts, t4, rfl, lt, st, T4, S4, ht4, Y4⟩
      have P4 := P3.only Y4 hs1
      have W4 := AS (N3.trans Y4)
      have E1 : Kept6 (HasP u4 a1 rs) := ⟨P4.has.2.2.2⟩
      have E2 : Kept6 (HasP u4 a4 ts) := ⟨T4.has.2.2.2⟩
      have E3 : Kept6 (∀ r ∈ ts, r.zs.length ≤ 251) := ⟨st⟩
      clear st T4 P4 P3 Q3 S3 S4 AS AP Y4
      go_wp2
      exact bodyPost_ret (v := .tuple #[.slice a1 rs.length c1, .slice a4 ts.length c4]) (by simp [results, Tryd.results28, go_sem]) rfl ⟨a1, c1, rs, a4, c4, ts, rfl, by omega, by omega, fun r hr => by have := SM.out r hr; omega, fun r hr => by have := E3.out r hr; omega, E1.out, E2.out, W4⟩
    · have d1b : (q == 1) = false := by simpa using d1
      clear d1
      have W4 := AS N3
      have E1 : Kept6 (HasP u3 a1 rs) := ⟨P3.has.2.2.2⟩
      have E2 : Kept6 (HasP u3 a2 qs) := ⟨Q3.has.2.2.2⟩
      clear P3 Q3 S3 AS AP
      go_wp2
      exact bodyPost_ret (v := .tuple #[.slice a1 rs.length c1, .slice a2 qs.length c2]) (by simp [results, Tryd.results28, go_sem]) rfl ⟨a1, c1, rs, a2, c2, qs, rfl, by omega, by omega, fun r hr => by have := SM.out r hr; omega, fun r hr => by have := SQ.out r hr; omega, E1.out, E2.out, W4⟩

end Go.Proofs.YtklhkhlmhddmcaaDoor

namespace Go.Proofs.YtklhkhlmhddmcaaDoor
open Go.ChangeShapes Go.WideShapes Go.ChangeAt Go.RowKit
set_option linter.unusedVariables false
set_option linter.unusedSimpArgs false

/-- Rows of cells of two types lie apart. -/
theorem types_apart {w : World} {base b2 e1 e2 n m : Nat} {v u : Value} {xs ys : List Value} {g k : Nat} (h : w.ownsRow base e1 1 v n xs) (h2 : w.ownsRow b2 e2 1 u m ys) (he : e1 ≠ e2) (hg : v.ownBlock = some g) (hk : u.ownBlock = some k) : k ≠ g := by
  intro e
  subst e
  obtain ⟨c1, d1⟩ := own_cells h hg
  obtain ⟨c2, d2⟩ := own_cells h2 hk
  rw [d1] at d2
  simp at d2
  exact he d2.2

set_option maxHeartbeats 4000000 in
set_option maxRecDepth 100000 in
theorem drawPieceSums_any (w : World) (a : Option Addr) (len cap : Nat) (zs : List Int) (h : Has w .u8 a len zs) (hl : len ≤ 1048576) :
    Calls Tryd.prog 14 #[.slice a len cap] w fun e w' => ∃ (a1 : Option Addr) (c1 : Nat) (rs : List Pc), e = .returned (.slice a1 rs.length c1) ∧ rs.length ≤ 25 ∧ (∀ r ∈ rs, r.zs.length ≤ 251) ∧ HasP w' a1 rs ∧ Below w.heap.size w w' := by
  go_enter Tryd.func14, Tryd.ntmps14
  go_wp2_with fail
  refine (source_any _ a len cap zs h hl).mono ?_
  rintro e u1 ⟨rfl, S1, hb1, hs1⟩
  go_wp2_with fail
  refine (l6Bent_any _ _ _ a len cap zs 0 S1 (by omega)).mono ?_
  rintro e u2 ⟨a1, c1, rs, t2, rfl, l8, sm, P2, S2, ht2, Y2⟩
  have W2 := after_source hb1 Y2
  have E1 := P2.has.2.2.2
  go_wp2
  go_ret
  exact ⟨a1, c1, rs, rfl, l8, sm, E1, W2⟩

set_option maxHeartbeats 4000000 in
set_option maxRecDepth 100000 in
theorem drawLeafClash_any (w : World) (a : Option Addr) (len cap : Nat) (zs : List Int) (h : Has w .u8 a len zs) (hl : len ≤ 1048576) :
    Calls Tryd.prog 12 #[.slice a len cap] w fun e w' => ∃ (a1 : Option Addr) (c1 : Nat) (rs : List Pc) (at' : Int) (a2 : Option Addr) (c2 : Nat) (ds : List Int) (a3 : Option Addr) (c3 : Nat) (ps : List Int), e = .returned (.tuple #[.slice a1 rs.length c1, .int .i64 at', .slice a2 ds.length c2, .slice a3 ps.length c3]) ∧ rs.length ≤ 8 ∧ (∀ r ∈ rs, r.zs.length ≤ 10) ∧ (-1 ≤ at' ∧ at' ≤ rs.length) ∧ ds.length ≤ 10 ∧ ps.length ≤ 10 ∧ (ps.length ≤ c3 ∧ c3 ≤ maxLen) ∧ HasP w' a1 rs ∧ Has w' .u8 a2 ds.length ds ∧ Has w' .i64 a3 ps.length ps ∧ Below w.heap.size w w' := by
  obtain ⟨i0, hi, hz0, hz1, hz2⟩ := info_parts info64
  go_enter Tryd.func12, Tryd.ntmps12
  go_wp2_with fail
  refine (source_any _ a len cap zs h hl).mono ?_
  rintro e u1 ⟨rfl, S1, hb1, hs1⟩
  obtain ⟨u0, hu0⟩ : ∃ u0, u0 = w.heap.size := ⟨_, rfl⟩
  have AS : ∀ {w2 : World}, Only u0 u1 w2 → Below w.heap.size w w2 := fun {w2} ho => after_source hb1 (by rw [← hu0]; exact ho)
  rw [← hu0] at S1 hs1 ⊢
  clear hu0
  go_wp2_with fail
  refine (l6Like_any _ _ _ a len cap zs 0 S1 (by omega)).mono ?_
  rintro e u2 ⟨a1, c1, rs, a2, c2, qs, t2, rfl, l8, lq, sm, sq, P2, Q2, _, S2, ht2, Y2⟩
  have z2 := Y2.size
  have LQ : Kept6 (qs.length = rs.length) := ⟨lq⟩
  have SM : Kept6 (∀ r ∈ rs, r.zs.length ≤ 10) := ⟨sm⟩
  have SQ : Kept6 (∀ r ∈ qs, r.zs.length ≤ 10) := ⟨sq⟩
  clear lq sm sq
  by_cases r0 : rs.length = 0
  · have r0b : ((rs.length : Int) == 0) = true := by rw [r0]; rfl
    have bA : Below u2.heap.size u2 (u2.alloc (.cells #[.int .u8 1] 5)) := (Below.refl _ _).alloc (Nat.le_refl _) _
    have R1 : (u2.alloc (.cells #[.int .u8 1] 5)).ownsRow u1.heap.size 5 1 (.slice (some ⟨u2.heap.size, 0, none⟩) 1 1) 1 [.int .u8 1] := World.ownsRow_lit u2 #[.int .u8 1] 1 (by omega) (by unfold maxLen; omega) rfl
    have H1 : Has (u2.alloc (.cells #[.int .u8 1] 5)) .u8 (some ⟨u2.heap.size, 0, none⟩) [(1 : Int)].length [1] := has_of_own (zs := [1]) R1 (by intro n hn; simp at hn; subst hn; rfl)
    have E1 : Kept6 (HasP (u2.alloc (.cells #[.int .u8 1] 5)) a1 rs) := ⟨(P2.below bA).has.2.2.2⟩
    have E2 : Kept6 (Has (u2.alloc (.cells #[.int .u8 1] 5)) .u8 (some ⟨u2.heap.size, 0, none⟩) [(1 : Int)].length [1]) := ⟨H1⟩
    have W2 := AS (Y2.alloc (.cells #[.int .u8 1] 5))
    clear bA R1 H1 P2 Q2 S2 Y2 AS r0
    go_wp2
    exact bodyPost_ret (v := .tuple #[.slice a1 (rs.length) c1, .int .i64 (0), .slice (some ⟨u2.heap.size, 0, none⟩) 1 1, .slice none 0 0]) (by simp [results, Tryd.results12, go_sem]) rfl ⟨a1, c1, rs, 0, some ⟨u2.heap.size, 0, none⟩, 1, [1], none, 0, [], rfl, l8, SM.out, ⟨by omega, by omega⟩, by simp, by simp, ⟨Nat.zero_le _, Nat.zero_le _⟩, E1.out, E2.out, ⟨rfl, by simp, .inl rfl⟩, W2⟩
  · have r0b : ((rs.length : Int) == 0) = false := by simp; exact fun h => by simp [h] at r0
    go_wp2_with fail
    refine (next_wide _ _ _ a len cap zs _ rs.length S2 (by omega) (by omega) (by omega)).mono ?_
    rintro e u3 ⟨k, rfl, k0, k1, S3, Y3⟩
    obtain ⟨j, rfl⟩ := Int.eq_ofNat_of_zero_le k0
    have z3 := Y3.size
    have P3 := P2.only Y3 hs1
    have Q3 := Q2.only Y3 hs1
    have N3 := Y2.trans Y3
    have hjn : j < qs.length := by have := LQ.out; omega
    have hj : (j : Int) < (qs.length : Int) := by omega
    clear P2 Q2 S2 Y2 Y3
    have HQ := Q3.has.2.2.2
    obtain ⟨b1, o1, hx1, hb1', hc1⟩ : ∃ b off, a2 = some ⟨b, off, none⟩ ∧ b < u3.heap.size ∧ ∀ i (h : i < qs.length), u3.cell? ⟨b, off + i, none⟩ = some (.slice qs[i].ad qs[i].zs.length qs[i].cap) := by
      rcases HQ.1 with c | h
      · omega
      · exact h
    subst hx1
    have e1 := hc1 j hjn
    have R3 := Q3.row _ (List.getElem_mem hjn)
    have RW : Kept6 _ := ⟨Q3.wf _ (List.getElem_mem hjn)⟩
    have RL := SQ.out _ (List.getElem_mem hjn)
    clear hc1 HQ Q3
    generalize qs[j] = d1 at *
    have HP3 := P3.has.2.2.2
    go_wp2_with fail
    refine (l6Sums_any a1 c1 rs _ HP3 (by omega) (fun r hr => by have := SM.out r hr; omega)).mono ?_
    rintro e u4 ⟨pa, pc, rfl, O4, hb4⟩
    have hc4 := own_caps O4
    have H4 := has_of_own O4 (allS_wf (smL_all rs))
    have SA : Kept6 _ := ⟨smL_all rs⟩
    have SW := smL_len rs
    generalize smL rs = ms at *
    have l32 : ms.length ≤ 8 := by omega
    have j1 : (j : Int) < (ms.length : Int) := by have := LQ.out; omega
    clear SW
    go_wp2_with fail
    have LP := l4Path_any ms.length pa pc ms (j : Int) u4 (Nat.le_refl _) (by omega) SA.out (by omega) j1 H4 hc4.1 hc4.2
    refine LP.mono ?_
    clear LP
    rintro e u5 ⟨a5, c5, rfl, O5, hb5⟩
    have pl : (ptM nS 11 ms j).length ≤ 8 := by
      have := ptM_len nS 11 _ ms j (Nat.le_refl _)
      omega
    have PA : Kept6 (allS (ptM nS 11 ms j) = true) := ⟨ptM_all _ ms j (Nat.le_refl _) SA.out⟩
    generalize ptM nS 11 ms (j : Int) = ps at *
    have hb45 := hb4.trans (hb5.mono hb4.size)
    have z4 := hb4.size
    have z5 := hb5.size
    have P5 := P3.below hb45
    have R5 := own_below R3 hb45
    have S5 := S3.below hb45
    have N5 := N3.trans (.of_below hb45)
    clear hb4 hb5 hb45 P3 R3 S3 N3 O4 H4 hc4 HP3 e1
    go_wp2_with fail
    refine (next_any _ _ _ a len cap zs _ 8 S5 (by omega) (by omega) (by omega)).mono ?_
    rintro e u6 ⟨q, rfl, q0, q1, S6, Y6⟩
    have z6 := Y6.size
    have P6 := P5.only Y6 hs1
    have R6 := own_only R5 Y6 hs1
    have O6 := own_only O5 Y6 (by omega)
    have N6 := N5.trans Y6
    clear P5 R5 O5 S5 N5 Y6
    have hcp := own_caps O6
    by_cases d0 : q = 0
    · have d0b : (q == 0) = true := by simpa using d0
      clear d0
      go_wp2_with fail
      refine (some_any _ _ _ a len cap zs _ 2 S6 (by omega) (by omega)).mono ?_
      rintro e u7 ⟨a7, c7, ys, rfl, ly, O7, wy, S7, Y7⟩
      have E1 : Kept6 (HasP u7 a1 rs) := ⟨(P6.only Y7 hs1).has.2.2.2⟩
      have E2 : Kept6 (Has u7 .u8 a7 ys.length ys) := ⟨has_of_own O7 wy⟩
      have E3 : Kept6 (Has u7 .i64 a5 ps.length ps) := ⟨has_of_own (own_only O6 Y7 (by omega)) (allS_wf PA.out)⟩
      have W7 := AS (N6.trans Y7)
      have LY : Kept6 (ys.length = 2) := ⟨ly⟩
      clear P6 R6 O6 S6 N6 Y7 S7 O7 AS wy ly
      go_wp2
      exact bodyPost_ret (v := .tuple #[.slice a1 (rs.length) c1, .int .i64 ((j : Int)), .slice a7 ys.length c7, .slice a5 ps.length c5]) (by simp [results, Tryd.results12, go_sem]) rfl ⟨a1, c1, rs, j, a7, c7, ys, a5, c5, ps, rfl, l8, SM.out, ⟨by omega, by omega⟩, by have := LY.out; omega, by omega, hcp, E1.out, E2.out, E3.out, W7⟩
    · have d0b : (q == 0) = false := by simpa using d0
      clear d0
      by_cases dd : q = 1
      · have d1b : (q == 1) = true := by simpa using dd
        clear dd
        go_wp2_with (at_builtin; refine wpList_append_own _ rfl _ _ 25 rfl u4.heap.size 2 i0 (.int .i64 0) 1 8 Tryd.underlying25 hi hz0 hz1 hz2 rfl (by decide) _ _ _ rfl (O6.alloc _) ⟨u6.heap.size, 0, none⟩ 1 1 [.int .i64 5] rfl rfl (one_new _ _ _) (by intro u hu; simp at hu; subst hu; rfl) (by unfold maxLen; omega) (by omega) (by simp; omega) ?_; intro v' w9 hown3 hgrow _h4)
        have bA : Below u6.heap.size u6 (u6.alloc (.cells #[.int .i64 5] 2)) := (Below.refl _ _).alloc (Nat.le_refl _) _
        have P7 := P6.below bA
        have R7 := own_below R6 bA
        have O7 := own_below O6 bA
        have hf : Fr (fun k => (Value.slice a5 ps.length c5).ownBlock = some k) (u6.alloc (.cells #[.int .i64 5] 2)) w9 := .of_grown hgrow (fun k e => e)
        have P8 := P7.fr hf (fun g e1 e2 => types_apart P7.out O7 (by decide) e1 e2 rfl) (fun r hr g e1 e2 => types_apart (P7.row r hr) O7 (by decide) e1 e2 rfl)
        have R8 := own_fr R7 hf (fun g e1 e2 => types_apart R7 O7 (by decide) e1 e2 rfl)
        have hbel : Below u1.heap.size (u6.alloc (.cells #[.int .i64 5] 2)) w9 := (Below.refl _ _).grown hgrow (by simp; omega) (fun k hk => by have := (O6.lt k hk).1; omega)
        have N8 := (N6.alloc (.cells #[.int .i64 5] 2)).then_below hbel
        have O9 : w9.ownsRow u4.heap.size 2 1 v' (ps ++ [5]).length ((ps ++ [5]).map (.int .i64)) := by simpa using hown3
        obtain ⟨a9, c9, rfl⟩ := own_row_shape O9
        have E1 : Kept6 (HasP w9 a1 rs) := ⟨P8.has.2.2.2⟩
        have E2 : Kept6 (Has w9 .u8 d1.ad d1.zs.length d1.zs) := ⟨has_of_own R8 RW.out⟩
        have E3 : Kept6 (Has w9 .i64 a9 (ps ++ [5]).length (ps ++ [5])) := ⟨has_of_own O9 (allS_wf (allS_app PA.out (by omega) (by omega)))⟩
        have hc9 := own_caps O9
        have W9 := AS N8
        have L9 : Kept6 ((ps ++ [(5 : Int)]).length ≤ 10) := ⟨by simp; omega⟩
        clear P6 P7 P8 R6 R7 R8 O6 O7 O9 hf hbel N6 N8 hown3 hgrow _h4 S6 AS bA
        generalize ps ++ [(5 : Int)] = ps2 at *
        go_wp2
        exact bodyPost_ret (v := .tuple #[.slice a1 (rs.length) c1, .int .i64 ((j : Int)), .slice d1.ad d1.zs.length d1.cap, .slice a9 ps2.length c9]) (by simp [results, Tryd.results12, go_sem]) rfl ⟨a1, c1, rs, j, d1.ad, d1.cap, d1.zs, a9, c9, ps2, rfl, l8, SM.out, ⟨by omega, by omega⟩, RL, L9.out, hc9, E1.out, E2.out, E3.out, W9⟩
      · have d1b : (q == 1) = false := by simpa using dd
        clear dd
        by_cases d2 : q = 2
        · have d2b : (q == 2) = true := by simpa using d2
          clear d2
          have PH : Hid (∀ i, i < [(-1 : Int), (rs.length : Int)].length → (u6.alloc (.cells #[.int .i64 (-1), .int .i64 rs.length] 2)).cell? ⟨u6.heap.size, i, none⟩ = some (.int .i64 ([(-1 : Int), (rs.length : Int)].getD i 0))) := cells_lit u6 [-1, (rs.length : Int)] 2 _ rfl
          go_wp2_with fail
          refine (pick_any _ _ _ a len cap zs _ (S6.alloc _) (by omega) u6.heap.size [-1, (rs.length : Int)] 2 rfl (by simp) (by omega) (by omega) (by omega) 2 PH.out).mono ?_
          rintro e u7 ⟨x, rfl, hx, S7, Y7⟩
          have xb : -1 ≤ x ∧ x ≤ rs.length := by simp at hx; omega
          have bA : Below u6.heap.size u6 (u6.alloc (.cells #[.int .i64 (-1), .int .i64 rs.length] 2)) := (Below.refl _ _).alloc (Nat.le_refl _) _
          have E1 : Kept6 (HasP u7 a1 rs) := ⟨((P6.below bA).only Y7 hs1).has.2.2.2⟩
          have E2 : Kept6 (Has u7 .u8 d1.ad d1.zs.length d1.zs) := ⟨has_of_own (own_only (own_below R6 bA) Y7 hs1) RW.out⟩
          have E3 : Kept6 (Has u7 .i64 a5 ps.length ps) := ⟨has_of_own (own_only (own_below O6 bA) Y7 (by omega)) (allS_wf PA.out)⟩
          have W7 := AS ((N6.alloc (.cells #[.int .i64 (-1), .int .i64 rs.length] 2)).trans Y7)
          clear P6 R6 O6 S6 N6 Y7 S7 AS hx PH bA
          go_wp2
          exact bodyPost_ret (v := .tuple #[.slice a1 (rs.length) c1, .int .i64 (x), .slice d1.ad d1.zs.length d1.cap, .slice a5 ps.length c5]) (by simp [results, Tryd.results12, go_sem]) rfl ⟨a1, c1, rs, x, d1.ad, d1.cap, d1.zs, a5, c5, ps, rfl, l8, SM.out, xb, RL, by omega, hcp, E1.out, E2.out, E3.out, W7⟩
        · have d2b : (q == 2) = false := by simpa using d2
          clear d2
          have E1 : Kept6 (HasP u6 a1 rs) := ⟨P6.has.2.2.2⟩
          have E2 : Kept6 (Has u6 .u8 d1.ad d1.zs.length d1.zs) := ⟨has_of_own R6 RW.out⟩
          have E3 : Kept6 (Has u6 .i64 a5 ps.length ps) := ⟨has_of_own O6 (allS_wf PA.out)⟩
          have W6 := AS N6
          clear P6 R6 O6 S6 N6 AS
          go_wp2
          exact bodyPost_ret (v := .tuple #[.slice a1 (rs.length) c1, .int .i64 ((j : Int)), .slice d1.ad d1.zs.length d1.cap, .slice a5 ps.length c5]) (by simp [results, Tryd.results12, go_sem]) rfl ⟨a1, c1, rs, j, d1.ad, d1.cap, d1.zs, a5, c5, ps, rfl, l8, SM.out, ⟨by omega, by omega⟩, RL, by omega, hcp, E1.out, E2.out, E3.out, W6⟩

end Go.Proofs.YtklhkhlmhddmcaaDoor
