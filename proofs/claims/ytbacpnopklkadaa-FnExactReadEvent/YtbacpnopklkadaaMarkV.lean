/- Contracts of the laws' own functions over results that hold an event: held against each other, marked, still there. -/
import Derived.Test.YtbacpnopklkadaaMarkE
namespace Go.Proofs.Ytbacpnopklkadaa
open Go.ChangeShapes Go.WideShapes Go.ChangeAt Go.RowKit
set_option linter.unusedVariables false
set_option linter.unusedSimpArgs false

set_option maxHeartbeats 1000000 in
theorem eqEventR_any (cd s v k x us : Int) (a b : Option Addr) (ca cb : Nat) (zs : List Int) (w : World) (ha : Has w .u8 a zs.length zs) (hb : Has w .u8 b zs.length zs) (hl : zs.length ≤ 1048576) :
    Calls Try.prog 21 #[.agg #[.int .i64 cd, .int .i64 s, .int .i64 v, .int .i64 k, .int .i64 x, .slice a zs.length ca, .int .i64 us], .agg #[.int .i64 cd, .int .i64 s, .int .i64 v, .int .i64 k, .int .i64 x, .slice b zs.length cb, .int .i64 us]] w fun r w' => r = .returned (.bool true) ∧ Below w.heap.size w w' := by
  have hcc : (cd != cd) = false := by simp
  have huu : (us != us) = false := by simp
  have A := (ha.alloc (.cells #[.int .i64 cd, .int .i64 s, .int .i64 v, .int .i64 k, .int .i64 x, .slice a zs.length ca, .int .i64 us] 38)).alloc (.cells #[.int .i64 cd, .int .i64 s, .int .i64 v, .int .i64 k, .int .i64 x, .slice b zs.length cb, .int .i64 us] 38)
  have B := (hb.alloc (.cells #[.int .i64 cd, .int .i64 s, .int .i64 v, .int .i64 k, .int .i64 x, .slice a zs.length ca, .int .i64 us] 38)).alloc (.cells #[.int .i64 cd, .int .i64 s, .int .i64 v, .int .i64 k, .int .i64 x, .slice b zs.length cb, .int .i64 us] 38)
  go_enter Try.func21, Try.ntmps21
  go_wp2_with fail
  refine (eqEvent_any s v k x a b ca cb zs _ A B hl).mono ?_
  rintro r u1 ⟨rfl, hb1⟩
  have z1 := hb1.size
  simp at z1
  obtain ⟨hc1, hf1⟩ := bcell hb1
  go_wp2
  go_ret
  exact ⟨rfl, (((Below.refl _ _).alloc (Nat.le_refl _) _).alloc (by simp) _).trans (hb1.mono (by simp; omega))⟩

set_option maxHeartbeats 1000000 in
theorem markEventR_any (base : Nat) (cd s v k x us : Int) (a : Option Addr) (c : Nat) (zs : List Int) (w : World) (hown : w.ownsRow base 5 1 (.slice a zs.length c) zs.length (zs.map (.int .u8))) (hl : zs.length ≤ 2097152) :
    Calls Try.prog 24 #[.agg #[.int .i64 cd, .int .i64 s, .int .i64 v, .int .i64 k, .int .i64 x, .slice a zs.length c, .int .i64 us], .int .i64 1] w fun r w' => r = .returned (.int .i64 (1 + zs.length)) ∧ w'.ownsRow base 5 1 (.slice a zs.length c) zs.length ((markL 1 zs.length).map (.int .u8)) ∧ Mk a ((w.alloc (.cells #[.int .i64 cd, .int .i64 s, .int .i64 v, .int .i64 k, .int .i64 x, .slice a zs.length c, .int .i64 us] 38)).alloc (.cells #[.int .i64 s, .int .i64 v, .int .i64 k, .int .i64 x, .slice a zs.length c] 27)) w' := by
  go_enter Try.func24, Try.ntmps24
  go_wp2_with (go_at_call 15; refine (markEvent_any base s v k x a c zs _ (own_below hown ((Below.refl _ _).alloc (Nat.le_refl _) _)) hl).mono ?_; rintro r u1 ⟨rfl, ho1, hm1⟩)
  go_ret
  exact ⟨rfl, ho1, hm1⟩

set_option maxHeartbeats 1000000 in
theorem heldEvent_any (s v k x : Int) (a : Option Addr) (c : Nat) (n : Nat) (w : World) (h : Has w .u8 a (markL 1 n).length (markL 1 n)) (hl : n ≤ 2097152) :
    Calls Try.prog 38 #[.agg #[.int .i64 s, .int .i64 v, .int .i64 k, .int .i64 x, .slice a n c], .int .i64 1] w fun r w' => r = .returned (.int .i64 (1 + n)) ∧ Below w.heap.size w w' := by
  have hn' : (0 : Int) ≤ 1 + (n : Int) := by omega
  go_enter Try.func38, Try.ntmps38
  go_wp2_with (go_at_call 35; refine (heldByteS_any a c 1 n _ (h.alloc _) hl (by omega) (by omega)).mono ?_; rintro r u1 ⟨rfl, hb1⟩)
  go_ret
  exact ⟨rfl, ((Below.refl _ _).alloc (Nat.le_refl _) _).trans (hb1.mono (by simp))⟩

set_option maxHeartbeats 1000000 in
theorem heldEventR_any (cd s v k x us : Int) (a : Option Addr) (c : Nat) (n : Nat) (w : World) (h : Has w .u8 a (markL 1 n).length (markL 1 n)) (hl : n ≤ 2097152) :
    Calls Try.prog 25 #[.agg #[.int .i64 cd, .int .i64 s, .int .i64 v, .int .i64 k, .int .i64 x, .slice a n c, .int .i64 us], .int .i64 1] w fun r w' => r = .returned (.int .i64 (1 + n)) ∧ Below w.heap.size w w' := by
  have hn' : (0 : Int) ≤ 1 + (n : Int) := by omega
  go_enter Try.func25, Try.ntmps25
  go_wp2_with (go_at_call 38; refine (heldEvent_any s v k x a c n _ (h.alloc _) hl).mono ?_; rintro r u1 ⟨rfl, hb1⟩)
  go_ret
  exact ⟨rfl, ((Below.refl _ _).alloc (Nat.le_refl _) _).trans (hb1.mono (by simp))⟩

/-- A result that holds an event, in a variable. -/
def Er (w : World) (p : Nat) (cd s v k x : Int) (a : Option Addr) (n c : Nat) (us : Int) : Prop := w.cell? ⟨p, 0, none⟩ = some (.int .i64 cd) ∧ w.cell? ⟨p, 1, none⟩ = some (.int .i64 s) ∧ w.cell? ⟨p, 2, none⟩ = some (.int .i64 v) ∧ w.cell? ⟨p, 3, none⟩ = some (.int .i64 k) ∧ w.cell? ⟨p, 4, none⟩ = some (.int .i64 x) ∧ w.cell? ⟨p, 5, none⟩ = some (.slice a n c) ∧ w.cell? ⟨p, 6, none⟩ = some (.int .i64 us)
theorem Er.below {w w' : World} {p n c B : Nat} {cd s v k x us : Int} {a : Option Addr} (h : Er w p cd s v k x a n c us) (hb : Below B w w') (hp : p < B) : Er w' p cd s v k x a n c us := by
  obtain ⟨h0, h1, h2, h3, h4, h5, h6⟩ := h
  exact ⟨(hb.cell (p := ⟨p, 0, none⟩) hp).trans h0, (hb.cell (p := ⟨p, 1, none⟩) hp).trans h1, (hb.cell (p := ⟨p, 2, none⟩) hp).trans h2, (hb.cell (p := ⟨p, 3, none⟩) hp).trans h3, (hb.cell (p := ⟨p, 4, none⟩) hp).trans h4, (hb.cell (p := ⟨p, 5, none⟩) hp).trans h5, (hb.cell (p := ⟨p, 6, none⟩) hp).trans h6⟩
theorem Er.mk {w w' : World} {p n c : Nat} {cd s v k x us : Int} {a a2 : Option Addr} (h : Er w p cd s v k x a n c us) (hm : Mk a2 w w') (hp : ∀ ad, a2 = some ad → p ≠ ad.block) : Er w' p cd s v k x a n c us := by
  obtain ⟨h0, h1, h2, h3, h4, h5, h6⟩ := h
  exact ⟨(hm.cell hp).trans h0, (hm.cell hp).trans h1, (hm.cell hp).trans h2, (hm.cell hp).trans h3, (hm.cell hp).trans h4, (hm.cell hp).trans h5, (hm.cell hp).trans h6⟩
theorem Er.new (w : World) (cd s v k x : Int) (a : Option Addr) (n c : Nat) (us : Int) (T : Nat) : Er (w.alloc (.cells #[.int .i64 cd, .int .i64 s, .int .i64 v, .int .i64 k, .int .i64 x, .slice a n c, .int .i64 us] T)) w.heap.size cd s v k x a n c us := by
  refine ⟨?_, ?_, ?_, ?_, ?_, ?_, ?_⟩ <;> simp [go_sem]

end Go.Proofs.Ytbacpnopklkadaa
