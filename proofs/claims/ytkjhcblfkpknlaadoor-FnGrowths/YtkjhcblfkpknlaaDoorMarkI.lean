/- Contracts of the laws' own functions that write into bytes and look whether they are still there. Contracts of the laws' own functions over results of bytes: held against each other, marked, still there. Contracts of the laws' own functions over results of numbers: held against each other, marked, still there. -/
import Derived.Test.YtkjhcblfkpknlaaDoorFrB
import Derived.Test.YtkjhcblfkpknlaaDoorISums
import Derived.Test.YtkjhcblfkpknlaaDoorInts
namespace Go.Proofs.YtkjhcblfkpknlaaDoor
open Go.ChangeShapes Go.WideShapes Go.ChangeAt Go.RowKit
set_option linter.unusedVariables false
set_option linter.unusedSimpArgs false

/-- Bytes of a block below B. -/
def HasIn (B : Nat) (w : World) (a : Option Addr) (zs : List Int) : Prop :=
  (∀ n ∈ zs, (Lit.int .u8 n).wf = true) ∧ (zs.length = 0 ∨ ∃ b off, a = some ⟨b, off, none⟩ ∧ b < B ∧ ∀ i, i < zs.length → w.cell? ⟨b, off + i, none⟩ = some (.int .u8 (zs.getD i 0)))
theorem HasIn.of {w : World} {a : Option Addr} {zs : List Int} (h : Has w .u8 a zs.length zs) : HasIn w.heap.size w a zs := ⟨h.2.1, h.2.2⟩
theorem HasIn.below {B : Nat} {w w' : World} {a : Option Addr} {zs : List Int} (h : HasIn B w a zs) (hb : Below B w w') : HasIn B w' a zs := by
  refine ⟨h.1, h.2.imp id ?_⟩
  rintro ⟨b, off, ha, hlt, hc⟩
  exact ⟨b, off, ha, hlt, fun i hi => (hb.cell (p := ⟨b, off + i, none⟩) hlt).trans (hc i hi)⟩
theorem HasIn.has {B : Nat} {w : World} {a : Option Addr} {zs : List Int} (h : HasIn B w a zs) (hB : B ≤ w.heap.size) : Has w .u8 a zs.length zs := by
  refine ⟨rfl, h.1, h.2.imp id ?_⟩
  rintro ⟨b, off, ha, hlt, hc⟩
  exact ⟨b, off, ha, by omega, hc⟩

/-- The bytes that are marked from k on. -/
def markL (k : Int) (n : Nat) : List Int := (List.range n).map fun (i : Nat) => (k + (i : Int)) % 256
theorem markL_len (k : Int) (n : Nat) : (markL k n).length = n := by simp [markL]
theorem markL_wf (k : Int) (n : Nat) : ∀ x ∈ markL k n, (Lit.int .u8 x).wf = true := by
  intro x hx
  simp [markL] at hx
  obtain ⟨i, _, rfl⟩ := hx
  exact wf_u8 (by omega) (by omega)
theorem markL_get (k : Int) (n i : Nat) (h : i < n) : (markL k n).getD i 0 = (k + (i : Int)) % 256 := by
  simp [markL, List.getD, List.getElem?_map, h]
def markP (k : Int) (zs : List Int) (j : Nat) : List Value := (markL k j ++ zs.drop j).map (.int .u8)
theorem markP_zero (k : Int) (zs : List Int) : markP k zs 0 = zs.map (.int .u8) := by simp [markP, markL]
theorem markP_all (k : Int) (zs : List Int) : markP k zs zs.length = (markL k zs.length).map (.int .u8) := by simp [markP]
theorem markP_set (k : Int) (zs : List Int) (j : Nat) (h : j < zs.length) : (markP k zs j).set j (.int .u8 ((k + (j : Int)) % 256)) = markP k zs (j + 1) := by
  unfold markP
  rw [← List.map_set, List.set_append_right _ _ (by rw [markL_len]; omega), markL_len, Nat.sub_self, List.drop_eq_getElem_cons h, List.set_cons_zero]
  have e : markL k (j + 1) = markL k j ++ [(k + (j : Int)) % 256] := by simp [markL, List.range_succ]
  rw [e, List.append_assoc]
  rfl
theorem markP_cell (k : Int) (zs : List Int) (j : Nat) (h : j < zs.length) : (markP k zs j)[j]? = some (.int .u8 zs[j]) := by
  unfold markP
  rw [List.getElem?_map, List.getElem?_append_right (by rw [markL_len]; omega), markL_len, Nat.sub_self, List.drop_eq_getElem_cons h]
  rfl

end Go.Proofs.YtkjhcblfkpknlaaDoor

namespace Go.Proofs.YtkjhcblfkpknlaaDoor
open Go.ChangeShapes Go.WideShapes Go.ChangeAt Go.RowKit
set_option linter.unusedVariables false
set_option linter.unusedSimpArgs false

theorem own_lt {w : World} {base e n c : Nat} {a : Option Addr} {xs : List Value} (ho : w.ownsRow base e 1 (.slice a n c) n xs) : ∀ ad, a = some ad → ad.block < w.heap.size := by
  intro ad had
  subst had
  rcases ho.2 with ⟨e1, _⟩ | ⟨g, _, _, e1, hb, hg, _⟩
  · simp at e1
  · simp at e1
    rw [e1.1]
    exact (Array.getElem?_eq_some_iff.1 hg).1
theorem Mk.cell {a : Option Addr} {w w' : World} (h : Mk a w w') {b o : Nat} (hb : ∀ ad, a = some ad → b ≠ ad.block) : w'.cell? ⟨b, o, none⟩ = w.cell? ⟨b, o, none⟩ := World.cell?_of_block (w := w) (h.block b hb)
/-- A result of bytes in a variable. -/
def VarAt (w : World) (p : Nat) (cd : Int) (a : Option Addr) (n c : Nat) : Prop := w.cell? ⟨p, 0, none⟩ = some (.int .i64 cd) ∧ w.cell? ⟨p, 1, none⟩ = some (.slice a n c)
theorem VarAt.below {w w' : World} {p n c B : Nat} {cd : Int} {a : Option Addr} (h : VarAt w p cd a n c) (hb : Below B w w') (hp : p < B) : VarAt w' p cd a n c :=
  ⟨(hb.cell (p := ⟨p, 0, none⟩) hp).trans h.1, (hb.cell (p := ⟨p, 1, none⟩) hp).trans h.2⟩
theorem VarAt.mk {w w' : World} {p n c : Nat} {cd : Int} {a a2 : Option Addr} (h : VarAt w p cd a n c) (hm : Mk a2 w w') (hp : ∀ ad, a2 = some ad → p ≠ ad.block) : VarAt w' p cd a n c :=
  ⟨(hm.cell hp).trans h.1, (hm.cell hp).trans h.2⟩
theorem VarAt.new (w : World) (cd : Int) (a : Option Addr) (n c T : Nat) : VarAt (w.alloc (.cells #[.int .i64 cd, .slice a n c] T)) w.heap.size cd a n c := by
  constructor <;> simp [go_sem]

end Go.Proofs.YtkjhcblfkpknlaaDoor

namespace Go.Proofs.YtkjhcblfkpknlaaDoor
open Go.ChangeShapes Go.WideShapes Go.ChangeAt Go.RowKit
set_option linter.unusedVariables false
set_option linter.unusedSimpArgs false

/-- Numbers of a block below B. -/
def HasJ (B : Nat) (w : World) (a : Option Addr) (zs : List Int) : Prop :=
  (∀ n ∈ zs, (Lit.int .i64 n).wf = true) ∧ (zs.length = 0 ∨ ∃ b off, a = some ⟨b, off, none⟩ ∧ b < B ∧ ∀ i, i < zs.length → w.cell? ⟨b, off + i, none⟩ = some (.int .i64 (zs.getD i 0)))
theorem HasJ.of {w : World} {a : Option Addr} {zs : List Int} (h : Has w .i64 a zs.length zs) : HasJ w.heap.size w a zs := ⟨h.2.1, h.2.2⟩
theorem HasJ.below {B : Nat} {w w' : World} {a : Option Addr} {zs : List Int} (h : HasJ B w a zs) (hb : Below B w w') : HasJ B w' a zs := by
  refine ⟨h.1, h.2.imp id ?_⟩
  rintro ⟨b, off, ha, hlt, hc⟩
  exact ⟨b, off, ha, hlt, fun i hi => (hb.cell (p := ⟨b, off + i, none⟩) hlt).trans (hc i hi)⟩
theorem HasJ.has {B : Nat} {w : World} {a : Option Addr} {zs : List Int} (h : HasJ B w a zs) (hB : B ≤ w.heap.size) : Has w .i64 a zs.length zs := by
  refine ⟨rfl, h.1, h.2.imp id ?_⟩
  rintro ⟨b, off, ha, hlt, hc⟩
  exact ⟨b, off, ha, by omega, hc⟩

set_option maxHeartbeats 1000000 in
theorem markInt64S_any (base : Nat) (a : Option Addr) (c : Nat) (k : Int) (zs : List Int) (w : World) (hown : w.ownsRow base 2 1 (.slice a zs.length c) zs.length (zs.map (.int .i64))) (hl : zs.length ≤ 2097152) (k0 : 0 ≤ k) (k1 : k ≤ 8388608) :
    Calls Tryd.prog 38 #[.slice a zs.length c, .int .i64 k] w fun r w' => r = .returned (.int .i64 (k + zs.length)) ∧ w'.ownsRow base 2 1 (.slice a zs.length c) zs.length ((markN k zs.length).map (.int .i64)) ∧ Mk a w w' := by
  have hpz := markQ_zero k zs
  have hpa := markQ_all k zs
  have PZ : Hid (_) := hpz
  have PA : Hid (_) := hpa
  clear hpz hpa
  rcases hown.2 with ⟨e, h0⟩ | ⟨g, cap, cur, e, _⟩
  · obtain rfl : zs = [] := List.eq_nil_of_length_eq_zero h0
    simp at e
    obtain ⟨rfl, rfl⟩ := e
    have hown' := hown
    rw [← PZ.out] at hown'
    simp only [List.length_nil] at *
    have PA' := PA.out
    have HO : Hid (_) := hown'
    clear hown hown'
    go_enter Tryd.func38, Tryd.ntmps38
    go_wp2
    refine wp_loop_rounds 1 ?_
    rw [rounds_succ]
    go_wp2
    go_ret
    refine ⟨ret_int (by simp), ?_, Mk.refl _ _⟩
    exact ⟨by simp [markN], .inl ⟨rfl, rfl⟩⟩
  · simp at e
    obtain ⟨rfl, rfl⟩ := e
    rw [← PZ.out] at hown
    go_enter Tryd.func38, Tryd.ntmps38
    go_wp2
    go_loopw [1, 5] (fun kk i wr => ∃ j : Nat, j ≤ zs.length ∧ i = .int .i64 j ∧ kk = .int .i64 (k + j) ∧ wr.ownsRow base 2 1 (.slice (some ⟨g, 0, none⟩) zs.length c) zs.length (markQ k zs j) ∧ Mk (some ⟨g, 0, none⟩) w wr) (fun _ i _ => zs.length - (intOf i).toNat)
    case atStart => exact ⟨0, Nat.zero_le _, rfl, by simp, hown, Mk.refl _ _⟩
    case round =>
      clear hown
      obtain ⟨j, hj, rfl, rfl, hown, hmk⟩ := hrel
      by_cases hlt : j < zs.length
      · have hlt' : (j : Int) < (zs.length : Int) := by omega
        have hy : wr.cell? ⟨g, j, none⟩ = some (.int .i64 zs[j]) := (hown.cellAt j (by omega)).trans (markQ_cell k zs j hlt)
        have hf := hown.frozenAt j
        have hst := hown.stored j (.int .i64 ((k + (j : Int)) ))
        rw [markQ_set k zs j hlt] at hst
        have HST : Hid (_ ∧ _) := hst
        clear hst hown
        go_wp2
        go_roundw
        case rel => exact ⟨j + 1, by omega, by go_num, by go_num, HST.out.1, hmk.store _⟩
        case measure => simp [intOf]; omega
      · have hjj : j = zs.length := by omega
        have HK : Hid (j = zs.length) := hjj
        clear hjj
        go_wp2
        go_ret
        refine ⟨ret_int (by rw [HK.out]), ?_, hmk⟩
        rw [HK.out, PA.out] at hown
        exact hown

set_option maxHeartbeats 1000000 in
theorem heldInt64S_any (a : Option Addr) (c : Nat) (k : Int) (n : Nat) (w : World) (h : Has w .i64 a (markN k n).length (markN k n)) (hl : n ≤ 2097152) (k0 : 0 ≤ k) (k1 : k ≤ 8388608) :
    Calls Tryd.prog 79 #[.slice a n c, .int .i64 k] w fun r w' => r = .returned (.int .i64 (k + n)) ∧ Below w.heap.size w w' := by
  have hc := h.2.2
  rw [markN_len] at hc
  rcases hc with h0 | ⟨b, off, rfl, hb, hcell⟩
  · subst h0
    go_enter Tryd.func79, Tryd.ntmps79
    go_wp2
    refine wp_loop_rounds 1 ?_
    rw [rounds_succ]
    go_wp2
    go_ret
    exact ⟨ret_int (by simp), Below.refl _ _⟩
  · clear h
    go_enter Tryd.func79, Tryd.ntmps79
    go_wp2
    go_loopw [1, 5] (fun kk i wr => ∃ j m : Nat, j ≤ n ∧ i = .int .i64 j ∧ kk = .int .i64 (k + j) ∧ wr = w.drewN m) (fun _ i _ => n - (intOf i).toNat)
    case atStart => exact ⟨0, 0, Nat.zero_le _, rfl, by simp, rfl⟩
    case round =>
      obtain ⟨j, m, hj, rfl, rfl, rfl⟩ := hrel
      by_cases hlt : j < n
      · have hlt' : (j : Int) < (n : Int) := by omega
        have e1 : w.cell? ⟨b, off + j, none⟩ = some (.int .i64 ((k + (j : Int)) )) := by rw [hcell j hlt, markN_get k n j hlt]
        have e3 : ((k + (j : Int))  != (k + (j : Int)) ) = false := by simp
        clear hcell
        go_wp2
        try go_quiet (fail)
        go_wp2
        go_roundw
        case rel => exact ⟨j + 1, _, by omega, by go_num, by go_num, rfl⟩
        case measure => simp [intOf]; omega
      · have hjj : j = n := by omega
        subst hjj
        go_wp2
        go_ret
        exact ⟨rfl, below_drewN (Below.refl _ _) _⟩

set_option maxHeartbeats 1000000 in
theorem eqIntsR_any (cd : Int) (a b : Option Addr) (ca cb : Nat) (zs : List Int) (w : World) (ha : Has w .i64 a zs.length zs) (hb : Has w .i64 b zs.length zs) (hl : zs.length ≤ 1048576) :
    Calls Tryd.prog 37 #[.agg #[.int .i64 cd, .slice a zs.length ca], .agg #[.int .i64 cd, .slice b zs.length cb]] w fun r w' => r = .returned (.bool true) ∧ Below w.heap.size w w' := by
  have hcc : (cd != cd) = false := by simp
  have A := (ha.alloc (.cells #[.int .i64 cd, .slice a zs.length ca] 28)).alloc (.cells #[.int .i64 cd, .slice b zs.length cb] 28)
  have B := (hb.alloc (.cells #[.int .i64 cd, .slice a zs.length ca] 28)).alloc (.cells #[.int .i64 cd, .slice b zs.length cb] 28)
  go_enter Tryd.func37, Tryd.ntmps37
  go_wp2_with (go_at_call 36; refine (eqInts_any a b ca cb zs _ A B hl).mono ?_; rintro r u1 ⟨rfl, hb1⟩)
  go_ret
  exact ⟨rfl, (((Below.refl _ _).alloc (Nat.le_refl _) _).alloc (by simp) _).trans (hb1.mono (by simp; omega))⟩

set_option maxHeartbeats 1000000 in
theorem markIntsR_any (base : Nat) (cd : Int) (a : Option Addr) (c : Nat) (zs : List Int) (w : World) (hown : w.ownsRow base 2 1 (.slice a zs.length c) zs.length (zs.map (.int .i64))) (hl : zs.length ≤ 2097152) :
    Calls Tryd.prog 39 #[.agg #[.int .i64 cd, .slice a zs.length c], .int .i64 1] w fun r w' => r = .returned (.int .i64 (1 + zs.length)) ∧ w'.ownsRow base 2 1 (.slice a zs.length c) zs.length ((markN 1 zs.length).map (.int .i64)) ∧ Mk a (w.alloc (.cells #[.int .i64 cd, .slice a zs.length c] 28)) w' := by
  go_enter Tryd.func39, Tryd.ntmps39
  go_wp2_with (go_at_call 38; refine (markInt64S_any base a c 1 zs _ (own_below hown ((Below.refl _ _).alloc (Nat.le_refl _) _)) hl (by omega) (by omega)).mono ?_; rintro r u1 ⟨rfl, ho1, hm1⟩)
  go_ret
  exact ⟨rfl, ho1, hm1⟩

set_option maxHeartbeats 1000000 in
theorem heldIntsR_any (cd : Int) (a : Option Addr) (c : Nat) (n : Nat) (w : World) (h : Has w .i64 a (markN 1 n).length (markN 1 n)) (hl : n ≤ 2097152) :
    Calls Tryd.prog 40 #[.agg #[.int .i64 cd, .slice a n c], .int .i64 1] w fun r w' => r = .returned (.int .i64 (1 + n)) ∧ Below w.heap.size w w' := by
  have hn : ¬ (1 + (n : Int)) < 0 := by omega
  have hn' : (0 : Int) ≤ 1 + (n : Int) := by omega
  go_enter Tryd.func40, Tryd.ntmps40
  go_wp2_with (go_at_call 79; refine (heldInt64S_any a c 1 n _ (h.alloc _) hl (by omega) (by omega)).mono ?_; rintro r u1 ⟨rfl, hb1⟩)
  go_ret
  exact ⟨rfl, ((Below.refl _ _).alloc (Nat.le_refl _) _).trans (hb1.mono (by simp))⟩

end Go.Proofs.YtkjhcblfkpknlaaDoor
