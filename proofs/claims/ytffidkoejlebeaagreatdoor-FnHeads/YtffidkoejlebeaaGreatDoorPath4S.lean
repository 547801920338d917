/- Contracts: the model's root of a log, split by split. Contracts of the laws' own functions that write into bytes and look whether they are still there. Contracts of the laws' own functions over results of bytes: held against each other, marked, still there. Contracts of the laws' own functions over results of numbers: held against each other, marked, still there. Contracts: the model's path of a leaf, split by split; its RootOf and PathOf. -/
import Derived.Test.YtffidkoejlebeaaGreatDoorHdD
import Derived.Test.YtffidkoejlebeaaGreatDoorRegB
import Derived.Test.YtffidkoejlebeaaGreatDoorKyH
import Derived.Deep.RegionWith
import Derived.Test.YtffidkoejlebeaaGreatDoorLvl
namespace Go.Proofs.YtffidkoejlebeaaGreatDoor
open Go.ChangeShapes Go.WideShapes Go.ChangeAt Go.RowKit
set_option linter.unusedVariables false
set_option linter.unusedSimpArgs false

theorem has_init {w : World} {k : IntKind} {a : Option Addr} {zs : List Int} (h : Has w k a zs.length zs) (n : Nat) (hn : n ≤ zs.length) : Has w k a (zs.take n).length (zs.take n) := h.init n hn
theorem has_rest {w : World} {k : IntKind} {b o : Nat} {zs : List Int} (h : Has w k (some ⟨b, o, none⟩) zs.length zs) (n : Nat) (hn : n ≤ zs.length) : Has w k (some ⟨b, o + n, none⟩) (zs.drop n).length (zs.drop n) := by
  refine ⟨rfl, fun x hx => h.2.1 x (List.mem_of_mem_drop hx), ?_⟩
  rcases h.2.2 with c | ⟨b', off', e, hlt, hc⟩
  · exact .inl (by simp; omega)
  · simp at e
    obtain ⟨rfl, rfl⟩ := e
    refine .inr ⟨b, o + n, rfl, hlt, fun j hj => ?_⟩
    simp at hj
    rw [show o + n + j = o + (n + j) by omega, hc (n + j) (by omega)]
    simp [List.getD]

set_option maxHeartbeats 4000000 in
theorem l4Root_any (n : Nat) : ∀ (x : Option Addr) (c : Nat) (zs : List Int) (w : World), zs.length ≤ n → zs.length ≤ 32 → allS zs = true → Has w .i64 x zs.length zs → zs.length ≤ c → c ≤ maxLen →
    Calls Tryz.prog 42 #[.slice x zs.length c] w fun r w' => r = .returned (.int .i64 (rtM nS 11 zs)) ∧ Below w.heap.size w w' := by
  induction n with
  | zero =>
    intro x c zs w hn h32 hall hp hc hm
    have h0 : zs.length = 0 := by omega
    have e : rtM nS 11 zs = sumL [] := by rw [rtM_le nS 11 (by omega), List.eq_nil_of_length_eq_zero h0]; rfl
    rw [e]
    clear e
    go_enter Tryz.func42, Tryz.ntmps42
    go_wp2_with (go_at_call 70; refine (l2Sum_any none 0 [] _ ⟨rfl, by simp, .inl rfl⟩ (by simp)).mono ?_; rintro r u2 ⟨rfl, rfl⟩)
    go_ret
    exact ⟨rfl, Below.refl _ _⟩
  | succ n ih =>
    intro x c zs w hn h32 hall hp hc hm
    unfold maxLen at hm
    by_cases h0 : zs.length = 0
    · have e : rtM nS 11 zs = sumL [] := by rw [rtM_le nS 11 (by omega), List.eq_nil_of_length_eq_zero h0]; rfl
      rw [e]
      clear e
      go_enter Tryz.func42, Tryz.ntmps42
      go_wp2_with (go_at_call 70; refine (l2Sum_any none 0 [] _ ⟨rfl, by simp, .inl rfl⟩ (by simp)).mono ?_; rintro r u2 ⟨rfl, rfl⟩)
      go_ret
      exact ⟨rfl, Below.refl _ _⟩
    · obtain ⟨b1, o1, hx, hb1, hcell⟩ : ∃ b off, x = some ⟨b, off, none⟩ ∧ b < w.heap.size ∧ ∀ i, i < zs.length → w.cell? ⟨b, off + i, none⟩ = some (.int .i64 (zs.getD i 0)) := by
        rcases hp.2.2 with c | h
        · omega
        · exact h
      subst hx
      by_cases h1 : zs.length = 1
      · have e1 := hcell 0 (by omega)
        have e : rtM nS 11 zs = zs.getD 0 0 := by
          rw [rtM_le nS 11 (by omega)]
          cases zs with
          | nil => simp at h0
          | cons y ys => rfl
        rw [e]
        generalize zs.getD 0 0 = y at *
        simp at e1
        clear e hcell
        go_enter Tryz.func42, Tryz.ntmps42
        go_wp2
        go_ret
        exact ⟨rfl, Below.refl _ _⟩
      · have hs' : (2 : Int) ≤ zs.length := by omega
        obtain ⟨q1, q2, q3⟩ := splN_bd hs' (by omega)
        obtain ⟨m, hm1⟩ : ∃ m : Nat, splN (zs.length : Int) = m := ⟨(splN (zs.length : Int)).toNat, by omega⟩
        have EQ : Hid (rtM nS 11 zs = nS (rtM nS 11 (zs.take m)) (rtM nS 11 (zs.drop m))) := by
          show _ = _
          rw [rtM_gt nS 11 (by omega), hm1]; rfl
        have tl : (zs.take m).length = m := by simp; omega
        have dl : (zs.drop m).length = zs.length - m := by simp
        have hb1' := rtM_bd _ (zs.take m) (Nat.le_refl _) (allS_take hall m)
        have hb2' := rtM_bd _ (zs.drop m) (Nat.le_refl _) (allS_drop hall m)
        have hi := has_init hp m (by omega)
        have hr := has_rest hp m (by omega)
        have IH1 : Hid (∀ d : KeptW w, Calls Tryz.prog 42 #[.slice (some ⟨b1, o1, none⟩) m c] d.wd fun r w' => r = .returned (.int .i64 (rtM nS 11 (zs.take m))) ∧ Below d.wd.heap.size d.wd w') := by
          intro d
          have := ih (some ⟨b1, o1, none⟩) c (zs.take m) d.wd (by omega) (by omega) (allS_take hall m) (hi.below d.hb (Nat.le_refl _)) (by omega) (by unfold maxLen; omega)
          rw [tl] at this
          exact this
        have IH2 : Hid (∀ d : KeptW w, Calls Tryz.prog 42 #[.slice (some ⟨b1, o1 + m, none⟩) (zs.length - m) (c - m)] d.wd fun r w' => r = .returned (.int .i64 (rtM nS 11 (zs.drop m))) ∧ Below d.wd.heap.size d.wd w') := by
          intro d
          have := ih (some ⟨b1, o1 + m, none⟩) (c - m) (zs.drop m) d.wd (by omega) (by omega) (allS_drop hall m) (hr.below d.hb (Nat.le_refl _)) (by omega) (by unfold maxLen; omega)
          rw [dl] at this
          exact this
        have hne : Nonempty (KeptW w) := ⟨⟨w, Below.refl _ _⟩⟩
        generalize rtM nS 11 (zs.take m) = r1 at *
        generalize rtM nS 11 (zs.drop m) = r2 at *
        rw [EQ.out]
        have HM : Hid (splN (zs.length : Int) = m) := hm1
        have m1 : (1 : Int) ≤ m := by omega
        have m2 : (m : Int) < zs.length := by omega
        have m3 : (zs.length : Int) ≤ c := by omega
        have m4 : ¬ (c : Int) = m := by omega
        clear EQ hi hr tl dl hcell hm1 hp ih h0 h1 q1 q2 q3
        have h0' : ¬ (zs.length : Int) = 0 := by omega
        have h1' : ¬ (zs.length : Int) = 1 := by omega
        go_enter Tryz.func42, Tryz.ntmps42
        go_upto_region 7 with (go_at_call 71; refine (split_any zs.length _ (by omega) (by omega)).mono ?_; rintro r u2 ⟨rfl, rfl⟩; rw [HM.out])
        refine wp_region_kept (by kernel_rfl) (by kernel_rfl) ?_
        repeat (go_big_quiet_step ((first | (go_at_call_of 42 (Value.slice (some ⟨b1, o1, none⟩) m c); exact KeptW.calls (IH1.out _)) | (go_at_call_of 42 (Value.slice (some ⟨b1, o1 + m, none⟩) (zs.length - m) (c - m)); exact KeptW.calls (IH2.out _)) | (go_at_call 72; exact KeptW.calls (l2NodeSum_any r1 r2 _ hb1'.1 (by omega) hb2'.1 (by omega))))))
        refine wpQuiet_nil ?_
        rintro _ ⟨d, rfl⟩
        go_wp2
        go_ret
        exact ⟨rfl, d.hb⟩

end Go.Proofs.YtffidkoejlebeaaGreatDoor

namespace Go.Proofs.YtffidkoejlebeaaGreatDoor
open Go.ChangeShapes Go.WideShapes Go.ChangeAt Go.RowKit
set_option linter.unusedVariables false
set_option linter.unusedSimpArgs false

/-- Bytes of a block below B. -/
def HasIn (B : Nat) (w : World) (a : Option Addr) (zs : List Int) : Prop :=
  (∀ n ∈ zs, (Lit.int .u8 n).wf = true) ∧ (zs.length = 0 ∨ ∃ b off, a = some ⟨b, off, none⟩ ∧ b < B ∧ ∀ i, i < zs.length → w.cell? ⟨b, off + i, none⟩ = some (.int .u8 (zs.getD i 0)))
theorem HasIn.of {w : World} {a : Option Addr} {zs : List Int} (h : Has w .u8 a zs.length zs) : HasIn w.heap.size w a zs := ⟨h.2.1, h.2.2⟩
theorem HasIn.below {B : Nat} {w w' : World} {a : Option Addr} {zs : List Int} (h : HasIn B w a zs) (hb : Below B w w') : HasIn B w' a zs := by
  refine ⟨h.1, h.2.imp id ?_⟩
  rintro ⟨b, off, ha, hlt, hc⟩
  exact ⟨b, off, ha, hlt, fun i hi => (hb.cell (p := ⟨b, off + i, none⟩) hlt).trans (hc i hi)⟩
theorem HasIn.has {B : Nat} {w : World} {a : Option Addr} {zs : List Int} (h : HasIn B w a zs) (hB : B ≤ w.heap.size) : Has w .u8 a zs.length zs := by
  refine ⟨rfl, h.1, h.2.imp id ?_⟩
  rintro ⟨b, off, ha, hlt, hc⟩
  exact ⟨b, off, ha, by omega, hc⟩

/-- The bytes that are marked from k on. -/
def markL (k : Int) (n : Nat) : List Int := (List.range n).map fun (i : Nat) => (k + (i : Int)) % 256
theorem markL_len (k : Int) (n : Nat) : (markL k n).length = n := by simp [markL]
theorem markL_wf (k : Int) (n : Nat) : ∀ x ∈ markL k n, (Lit.int .u8 x).wf = true := by
  intro x hx
  simp [markL] at hx
  obtain ⟨i, _, rfl⟩ := hx
  exact wf_u8 (by omega) (by omega)
theorem markL_get (k : Int) (n i : Nat) (h : i < n) : (markL k n).getD i 0 = (k + (i : Int)) % 256 := by
  simp [markL, List.getD, List.getElem?_map, h]
def markP (k : Int) (zs : List Int) (j : Nat) : List Value := (markL k j ++ zs.drop j).map (.int .u8)
theorem markP_zero (k : Int) (zs : List Int) : markP k zs 0 = zs.map (.int .u8) := by simp [markP, markL]
theorem markP_all (k : Int) (zs : List Int) : markP k zs zs.length = (markL k zs.length).map (.int .u8) := by simp [markP]
theorem markP_set (k : Int) (zs : List Int) (j : Nat) (h : j < zs.length) : (markP k zs j).set j (.int .u8 ((k + (j : Int)) % 256)) = markP k zs (j + 1) := by
  unfold markP
  rw [← List.map_set, List.set_append_right _ _ (by rw [markL_len]; omega), markL_len, Nat.sub_self, List.drop_eq_getElem_cons h, List.set_cons_zero]
  have e : markL k (j + 1) = markL k j ++ [(k + (j : Int)) % 256] := by simp [markL, List.range_succ]
  rw [e, List.append_assoc]
  rfl
theorem markP_cell (k : Int) (zs : List Int) (j : Nat) (h : j < zs.length) : (markP k zs j)[j]? = some (.int .u8 zs[j]) := by
  unfold markP
  rw [List.getElem?_map, List.getElem?_append_right (by rw [markL_len]; omega), markL_len, Nat.sub_self, List.drop_eq_getElem_cons h]
  rfl

end Go.Proofs.YtffidkoejlebeaaGreatDoor

namespace Go.Proofs.YtffidkoejlebeaaGreatDoor
open Go.ChangeShapes Go.WideShapes Go.ChangeAt Go.RowKit
set_option linter.unusedVariables false
set_option linter.unusedSimpArgs false

theorem own_lt {w : World} {base e n c : Nat} {a : Option Addr} {xs : List Value} (ho : w.ownsRow base e 1 (.slice a n c) n xs) : ∀ ad, a = some ad → ad.block < w.heap.size := by
  intro ad had
  subst had
  rcases ho.2 with ⟨e1, _⟩ | ⟨g, _, _, e1, hb, hg, _⟩
  · simp at e1
  · simp at e1
    rw [e1.1]
    exact (Array.getElem?_eq_some_iff.1 hg).1
theorem Mk.cell {a : Option Addr} {w w' : World} (h : Mk a w w') {b o : Nat} (hb : ∀ ad, a = some ad → b ≠ ad.block) : w'.cell? ⟨b, o, none⟩ = w.cell? ⟨b, o, none⟩ := World.cell?_of_block (w := w) (h.block b hb)
/-- A result of bytes in a variable. -/
def VarAt (w : World) (p : Nat) (cd : Int) (a : Option Addr) (n c : Nat) : Prop := w.cell? ⟨p, 0, none⟩ = some (.int .i64 cd) ∧ w.cell? ⟨p, 1, none⟩ = some (.slice a n c)
theorem VarAt.below {w w' : World} {p n c B : Nat} {cd : Int} {a : Option Addr} (h : VarAt w p cd a n c) (hb : Below B w w') (hp : p < B) : VarAt w' p cd a n c :=
  ⟨(hb.cell (p := ⟨p, 0, none⟩) hp).trans h.1, (hb.cell (p := ⟨p, 1, none⟩) hp).trans h.2⟩
theorem VarAt.mk {w w' : World} {p n c : Nat} {cd : Int} {a a2 : Option Addr} (h : VarAt w p cd a n c) (hm : Mk a2 w w') (hp : ∀ ad, a2 = some ad → p ≠ ad.block) : VarAt w' p cd a n c :=
  ⟨(hm.cell hp).trans h.1, (hm.cell hp).trans h.2⟩
theorem VarAt.new (w : World) (cd : Int) (a : Option Addr) (n c T : Nat) : VarAt (w.alloc (.cells #[.int .i64 cd, .slice a n c] T)) w.heap.size cd a n c := by
  constructor <;> simp [go_sem]

end Go.Proofs.YtffidkoejlebeaaGreatDoor

namespace Go.Proofs.YtffidkoejlebeaaGreatDoor
open Go.ChangeShapes Go.WideShapes Go.ChangeAt Go.RowKit
set_option linter.unusedVariables false
set_option linter.unusedSimpArgs false

/-- Numbers of a block below B. -/
def HasJ (B : Nat) (w : World) (a : Option Addr) (zs : List Int) : Prop :=
  (∀ n ∈ zs, (Lit.int .i64 n).wf = true) ∧ (zs.length = 0 ∨ ∃ b off, a = some ⟨b, off, none⟩ ∧ b < B ∧ ∀ i, i < zs.length → w.cell? ⟨b, off + i, none⟩ = some (.int .i64 (zs.getD i 0)))
theorem HasJ.of {w : World} {a : Option Addr} {zs : List Int} (h : Has w .i64 a zs.length zs) : HasJ w.heap.size w a zs := ⟨h.2.1, h.2.2⟩
theorem HasJ.below {B : Nat} {w w' : World} {a : Option Addr} {zs : List Int} (h : HasJ B w a zs) (hb : Below B w w') : HasJ B w' a zs := by
  refine ⟨h.1, h.2.imp id ?_⟩
  rintro ⟨b, off, ha, hlt, hc⟩
  exact ⟨b, off, ha, hlt, fun i hi => (hb.cell (p := ⟨b, off + i, none⟩) hlt).trans (hc i hi)⟩
theorem HasJ.has {B : Nat} {w : World} {a : Option Addr} {zs : List Int} (h : HasJ B w a zs) (hB : B ≤ w.heap.size) : Has w .i64 a zs.length zs := by
  refine ⟨rfl, h.1, h.2.imp id ?_⟩
  rintro ⟨b, off, ha, hlt, hc⟩
  exact ⟨b, off, ha, by omega, hc⟩

end Go.Proofs.YtffidkoejlebeaaGreatDoor

namespace Go.Proofs.YtffidkoejlebeaaGreatDoor
open Go.ChangeShapes Go.WideShapes Go.ChangeAt Go.RowKit
set_option linter.unusedVariables false
set_option linter.unusedSimpArgs false

set_option maxRecDepth 100000 in
set_option maxHeartbeats 4000000 in
theorem l4Path_any (n : Nat) : ∀ (x : Option Addr) (c : Nat) (zs : List Int) (a : Int) (w : World), zs.length ≤ n → zs.length ≤ 32 → allS zs = true → 0 ≤ a → a < zs.length → Has w .i64 x zs.length zs → zs.length ≤ c → c ≤ maxLen →
    Calls Tryz.prog 69 #[.slice x zs.length c, .int .i64 a] w fun r w' => ∃ pa pc, r = .returned (.slice pa (ptM nS 11 zs a).length pc) ∧ w'.ownsRow w.heap.size 2 1 (.slice pa (ptM nS 11 zs a).length pc) (ptM nS 11 zs a).length ((ptM nS 11 zs a).map (.int .i64)) ∧ Below w.heap.size w w' := by
  obtain ⟨i0, hi0, hz0, hz1, hz2⟩ := info_parts info64
  induction n with
  | zero => intro x c zs a w hn h32 hall ha0 ha1 hp hc hm; omega
  | succ n ih =>
    intro x c zs a w hn h32 hall ha0 ha1 hp hc hm
    unfold maxLen at hm
    by_cases h1 : zs.length ≤ 1
    · have h1' : (zs.length : Int) ≤ 1 := by omega
      rw [ptM_le nS 11 a h1]
      go_enter Tryz.func69, Tryz.ntmps69
      go_wp2
      go_ret
      refine ⟨some ⟨w.heap.size, 0, none⟩, 0, rfl, ⟨by simp, .inr ⟨w.heap.size, 0, #[], rfl, Nat.le_refl _, ?_, Nat.le_refl _, by unfold maxLen; omega, rfl, rfl⟩⟩, ?_⟩
      · exact Blk.new w #[] 2
      · repeat (first | exact Below.refl _ _ | (refine Below.alloc ?_ (by (try simp) <;> omega) _) | (refine Below.setCell ?_ (by (try simp) <;> omega) _))
    · obtain ⟨b1, o1, hx, hb1, hcell⟩ : ∃ b off, x = some ⟨b, off, none⟩ ∧ b < w.heap.size ∧ ∀ i, i < zs.length → w.cell? ⟨b, off + i, none⟩ = some (.int .i64 (zs.getD i 0)) := by
        rcases hp.2.2 with c | h
        · omega
        · exact h
      subst hx
      have hs' : (2 : Int) ≤ zs.length := by omega
      obtain ⟨q1, q2, q3⟩ := splN_bd hs' (by omega)
      obtain ⟨m, hm1⟩ : ∃ m : Nat, splN (zs.length : Int) = m := ⟨(splN (zs.length : Int)).toNat, by omega⟩
      have tl : (zs.take m).length = m := by simp; omega
      have dl : (zs.drop m).length = zs.length - m := by simp
      have hi := has_init hp m (by omega)
      have hr := has_rest hp m (by omega)
      have HM : Hid (splN (zs.length : Int) = m) := hm1
      have m1 : (1 : Int) ≤ m := by omega
      have m2 : (m : Int) < zs.length := by omega
      have m3 : (zs.length : Int) ≤ c := by omega
      have m4 : ¬ (c : Int) = m := by omega
      have m5 : (0 : Int) ≤ m := by omega
      have m8 : ¬ c = m := by omega
      have m6 : (m : Int) ≤ c := by omega
      have m7 : (m : Int) ≤ zs.length := by omega
      have h1' : ¬ (zs.length : Int) ≤ 1 := by omega
      have D0 : Below w.heap.size w w.drew := (Below.refl _ _).drew
      by_cases ha : a < m
      · have EQ : Hid (ptM nS 11 zs a = ptM nS 11 (zs.take m) a ++ [rtM nS 11 (zs.drop m)]) := by
          show _ = _
          rw [ptM_lo nS 11 (by omega) (by rw [hm1]; exact ha), hm1]; rfl
        have hb2' := rtM_bd _ (zs.drop m) (Nat.le_refl _) (allS_drop hall m)
        have LN := ptM_len nS 11 _ (zs.take m) a (Nat.le_refl _)
        have IH1 := ih (some ⟨b1, o1, none⟩) c (zs.take m) a w.drew (by omega) (by omega) (allS_take hall m) ha0 (by omega) (hi.below D0 (Nat.le_refl _)) (by omega) (by unfold maxLen; omega)
        rw [tl] at IH1 LN
        have RH : Hid (∀ u : World, Below w.heap.size w u → Calls Tryz.prog 42 #[.slice (some ⟨b1, o1 + m, none⟩) (zs.length - m) (c - m)] u fun r w' => r = .returned (.int .i64 (rtM nS 11 (zs.drop m))) ∧ Below u.heap.size u w') := by
          intro u hu
          have := l4Root_any _ (some ⟨b1, o1 + m, none⟩) (c - m) (zs.drop m) u (Nat.le_refl _) (by omega) (allS_drop hall m) (hr.below hu (Nat.le_refl _)) (by omega) (by unfold maxLen; omega)
          rw [dl] at this
          exact this
        have IHH : Hid (Calls Tryz.prog 69 #[.slice (some ⟨b1, o1, none⟩) m c, .int .i64 a] w.drew fun r w' => ∃ pa pc, r = .returned (.slice pa (ptM nS 11 (zs.take m) a).length pc) ∧ w'.ownsRow w.drew.heap.size 2 1 (.slice pa (ptM nS 11 (zs.take m) a).length pc) (ptM nS 11 (zs.take m) a).length ((ptM nS 11 (zs.take m) a).map (.int .i64)) ∧ Below w.drew.heap.size w.drew w') := IH1
        rw [EQ.out]
        clear EQ IH1 ih hi hr tl dl hcell hm1 hp h1 q1 q2 q3
        generalize ptM nS 11 (zs.take m) a = ps at *
        generalize rtM nS 11 (zs.drop m) = rv at *
        go_enter Tryz.func69, Tryz.ntmps69
        go_upto_region 6 with (go_at_call 71; refine (split_any zs.length _ (by omega) (by omega)).mono ?_; rintro r u2 ⟨rfl, rfl⟩; rw [HM.out])
        go_region_held3 (fun _ => True) (trivial) (first | (go_at_call 69; refine IHH.out.mono ?_; rintro r u3 ⟨pa, pc, rfl, O3, hb3⟩) | (go_at_call 42; refine (RH.out _ (D0.trans (hb3.mono D0.size))).mono ?_; rintro r u4 ⟨rfl, hb4⟩) | (refine step_app1 rfl _ _ 34 rfl u2.heap.size 2 i0 Tryz.underlying34 hi0 hz0 hz1 hz2 (.slice pa ps.length pc) ps.length (ps.map (.int .i64)) rfl ((own_below O3 hb4).alloc _) u4.heap.size 1 rv rfl ?_ ?_ ?_ ?_; (simp [go_sem]); omega; exact (Nat.le_trans (Nat.le_trans hb3.size hb4.size) (by rw [World.size_alloc]; exact Nat.le_succ _)); intro g' c' w5 hown hgrow hnew) | fail)
        go_wp2
        go_ret
        have B5 : Below u2.heap.size u2 (u4.alloc (.cells #[.int .i64 rv] 2)) := ((D0.trans (hb3.mono D0.size)).trans (hb4.mono hb3.size)).alloc (Nat.le_trans hb3.size hb4.size) _
        refine ⟨some ⟨g', 0, none⟩, c', ?_, ?_, B5.grown hgrow B5.size (fun j e => (O3.lt j e).1)⟩
        · rw [List.length_append]; rfl
        · rw [List.length_append, List.map_append]; exact hown
      · have EQ : Hid (ptM nS 11 zs a = ptM nS 11 (zs.drop m) (a - m) ++ [rtM nS 11 (zs.take m)]) := by
          show _ = _
          rw [ptM_hi nS 11 (by omega) (by rw [hm1]; exact ha), hm1]; rfl
        have hb2' := rtM_bd _ (zs.take m) (Nat.le_refl _) (allS_take hall m)
        have LN := ptM_len nS 11 _ (zs.drop m) (a - m) (Nat.le_refl _)
        have IH1 := ih (some ⟨b1, o1 + m, none⟩) (c - m) (zs.drop m) (a - m) w.drew (by omega) (by omega) (allS_drop hall m) (by omega) (by omega) (hr.below D0 (Nat.le_refl _)) (by omega) (by unfold maxLen; omega)
        rw [dl] at IH1 LN
        have RH : Hid (∀ u : World, Below w.heap.size w u → Calls Tryz.prog 42 #[.slice (some ⟨b1, o1, none⟩) m c] u fun r w' => r = .returned (.int .i64 (rtM nS 11 (zs.take m))) ∧ Below u.heap.size u w') := by
          intro u hu
          have := l4Root_any _ (some ⟨b1, o1, none⟩) c (zs.take m) u (Nat.le_refl _) (by omega) (allS_take hall m) (hi.below hu (Nat.le_refl _)) (by omega) (by unfold maxLen; omega)
          rw [tl] at this
          exact this
        have IHH : Hid (Calls Tryz.prog 69 #[.slice (some ⟨b1, o1 + m, none⟩) (zs.length - m) (c - m), .int .i64 (a - m)] w.drew fun r w' => ∃ pa pc, r = .returned (.slice pa (ptM nS 11 (zs.drop m) (a - m)).length pc) ∧ w'.ownsRow w.drew.heap.size 2 1 (.slice pa (ptM nS 11 (zs.drop m) (a - m)).length pc) (ptM nS 11 (zs.drop m) (a - m)).length ((ptM nS 11 (zs.drop m) (a - m)).map (.int .i64)) ∧ Below w.drew.heap.size w.drew w') := IH1
        have hwr : IntKind.i64.wrap (a - (m : Int)) = a - m := by rw [IntKind.wrap_i64]; omega
        rw [EQ.out]
        clear EQ IH1 ih hi hr tl dl hcell hm1 hp h1 q1 q2 q3
        generalize ptM nS 11 (zs.drop m) (a - m) = ps at *
        generalize rtM nS 11 (zs.take m) = rv at *
        go_enter Tryz.func69, Tryz.ntmps69
        go_upto_region 7 with (go_at_call 71; refine (split_any zs.length _ (by omega) (by omega)).mono ?_; rintro r u2 ⟨rfl, rfl⟩; rw [HM.out])
        go_region_held3 (fun _ => True) (trivial) (first | (go_at_call 69; refine IHH.out.mono ?_; rintro r u3 ⟨pa, pc, rfl, O3, hb3⟩) | (go_at_call 42; refine (RH.out _ (D0.trans (hb3.mono D0.size))).mono ?_; rintro r u4 ⟨rfl, hb4⟩) | (refine step_app1 rfl _ _ 34 rfl u2.heap.size 2 i0 Tryz.underlying34 hi0 hz0 hz1 hz2 (.slice pa ps.length pc) ps.length (ps.map (.int .i64)) rfl ((own_below O3 hb4).alloc _) u4.heap.size 1 rv rfl ?_ ?_ ?_ ?_; (simp [go_sem]); omega; exact (Nat.le_trans (Nat.le_trans hb3.size hb4.size) (by rw [World.size_alloc]; exact Nat.le_succ _)); intro g' c' w5 hown hgrow hnew) | fail)
        go_wp2
        go_ret
        have B5 : Below u2.heap.size u2 (u4.alloc (.cells #[.int .i64 rv] 2)) := ((D0.trans (hb3.mono D0.size)).trans (hb4.mono hb3.size)).alloc (Nat.le_trans hb3.size hb4.size) _
        refine ⟨some ⟨g', 0, none⟩, c', ?_, ?_, B5.grown hgrow B5.size (fun j e => (O3.lt j e).1)⟩
        · rw [List.length_append]; rfl
        · rw [List.length_append, List.map_append]; exact hown

end Go.Proofs.YtffidkoejlebeaaGreatDoor
