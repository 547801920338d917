/- Contracts of the laws' own functions over results of bytes: held against each other, marked, still there. -/
import Derived.Test.YtbacpnopklkadaaMark
namespace Go.Proofs.Ytbacpnopklkadaa
open Go.ChangeShapes Go.WideShapes Go.ChangeAt Go.RowKit
set_option linter.unusedVariables false
set_option linter.unusedSimpArgs false

set_option maxHeartbeats 1000000 in
theorem eqBytesR_any (cd : Int) (a b : Option Addr) (ca cb : Nat) (zs : List Int) (w : World) (ha : Has w .u8 a zs.length zs) (hb : Has w .u8 b zs.length zs) (hl : zs.length ≤ 1048576) :
    Calls Try.prog 14 #[.agg #[.int .i64 cd, .slice a zs.length ca], .agg #[.int .i64 cd, .slice b zs.length cb]] w fun r w' => r = .returned (.bool true) ∧ Below w.heap.size w w' := by
  have hcc : (cd != cd) = false := by simp
  have A := (ha.alloc (.cells #[.int .i64 cd, .slice a zs.length ca] 32)).alloc (.cells #[.int .i64 cd, .slice b zs.length cb] 32)
  have B := (hb.alloc (.cells #[.int .i64 cd, .slice a zs.length ca] 32)).alloc (.cells #[.int .i64 cd, .slice b zs.length cb] 32)
  go_enter Try.func14, Try.ntmps14
  go_wp2_with (go_at_call 22; refine (eqBytes_any a b ca cb zs _ A B hl).mono ?_; rintro r u1 ⟨rfl, hb1⟩)
  go_ret
  exact ⟨rfl, (((Below.refl _ _).alloc (Nat.le_refl _) _).alloc (by simp) _).trans (hb1.mono (by simp; omega))⟩

set_option maxHeartbeats 1000000 in
theorem markBytesR_any (base : Nat) (cd : Int) (a : Option Addr) (c : Nat) (zs : List Int) (w : World) (hown : w.ownsRow base 5 1 (.slice a zs.length c) zs.length (zs.map (.int .u8))) (hl : zs.length ≤ 2097152) :
    Calls Try.prog 16 #[.agg #[.int .i64 cd, .slice a zs.length c], .int .i64 1] w fun r w' => r = .returned (.int .i64 (1 + zs.length)) ∧ w'.ownsRow base 5 1 (.slice a zs.length c) zs.length ((markL 1 zs.length).map (.int .u8)) ∧ Mk a (w.alloc (.cells #[.int .i64 cd, .slice a zs.length c] 32)) w' := by
  go_enter Try.func16, Try.ntmps16
  go_wp2_with (go_at_call 23; refine (markByteS_any base a c 1 zs _ (own_below hown ((Below.refl _ _).alloc (Nat.le_refl _) _)) hl (by omega) (by omega)).mono ?_; rintro r u1 ⟨rfl, ho1, hm1⟩)
  go_ret
  exact ⟨rfl, ho1, hm1⟩

set_option maxHeartbeats 1000000 in
theorem heldBytesR_any (cd : Int) (a : Option Addr) (c : Nat) (n : Nat) (w : World) (h : Has w .u8 a (markL 1 n).length (markL 1 n)) (hl : n ≤ 2097152) :
    Calls Try.prog 17 #[.agg #[.int .i64 cd, .slice a n c], .int .i64 1] w fun r w' => r = .returned (.int .i64 (1 + n)) ∧ Below w.heap.size w w' := by
  have hn : ¬ (1 + (n : Int)) < 0 := by omega
  have hn' : (0 : Int) ≤ 1 + (n : Int) := by omega
  go_enter Try.func17, Try.ntmps17
  go_wp2_with (go_at_call 35; refine (heldByteS_any a c 1 n _ (h.alloc _) hl (by omega) (by omega)).mono ?_; rintro r u1 ⟨rfl, hb1⟩)
  go_ret
  exact ⟨rfl, ((Below.refl _ _).alloc (Nat.le_refl _) _).trans (hb1.mono (by simp))⟩

theorem own_lt {w : World} {base e n c : Nat} {a : Option Addr} {xs : List Value} (ho : w.ownsRow base e 1 (.slice a n c) n xs) : ∀ ad, a = some ad → ad.block < w.heap.size := by
  intro ad had
  subst had
  rcases ho.2 with ⟨e1, _⟩ | ⟨g, _, _, e1, hb, hg, _⟩
  · simp at e1
  · simp at e1
    rw [e1.1]
    exact (Array.getElem?_eq_some_iff.1 hg).1
theorem Mk.cell {a : Option Addr} {w w' : World} (h : Mk a w w') {b o : Nat} (hb : ∀ ad, a = some ad → b ≠ ad.block) : w'.cell? ⟨b, o, none⟩ = w.cell? ⟨b, o, none⟩ := World.cell?_of_block (w := w) (h.block b hb)
/-- A result of bytes in a variable. -/
def VarAt (w : World) (p : Nat) (cd : Int) (a : Option Addr) (n c : Nat) : Prop := w.cell? ⟨p, 0, none⟩ = some (.int .i64 cd) ∧ w.cell? ⟨p, 1, none⟩ = some (.slice a n c)
theorem VarAt.below {w w' : World} {p n c B : Nat} {cd : Int} {a : Option Addr} (h : VarAt w p cd a n c) (hb : Below B w w') (hp : p < B) : VarAt w' p cd a n c :=
  ⟨(hb.cell (p := ⟨p, 0, none⟩) hp).trans h.1, (hb.cell (p := ⟨p, 1, none⟩) hp).trans h.2⟩
theorem VarAt.mk {w w' : World} {p n c : Nat} {cd : Int} {a a2 : Option Addr} (h : VarAt w p cd a n c) (hm : Mk a2 w w') (hp : ∀ ad, a2 = some ad → p ≠ ad.block) : VarAt w' p cd a n c :=
  ⟨(hm.cell hp).trans h.1, (hm.cell hp).trans h.2⟩
theorem VarAt.new (w : World) (cd : Int) (a : Option Addr) (n c T : Nat) : VarAt (w.alloc (.cells #[.int .i64 cd, .slice a n c] T)) w.heap.size cd a n c := by
  constructor <;> simp [go_sem]

end Go.Proofs.Ytbacpnopklkadaa
