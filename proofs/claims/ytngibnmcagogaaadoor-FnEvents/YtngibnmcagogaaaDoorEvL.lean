/- What the law on events takes besides: fields of results, a code that is too long, a move through a region that draws, bytes held against each other, a result in a variable. -/
import Derived.Test.YtngibnmcagogaaaDoorReadD
import Derived.Test.YtngibnmcagogaaaDoorIPack
import Derived.Test.YtngibnmcagogaaaDoorToClash
import Derived.Test.YtngibnmcagogaaaDoorMarkI
import Derived.Deep.RegionHeld3
namespace Go.Proofs.YtngibnmcagogaaaDoor
open Go.ChangeShapes Go.WideShapes Go.ChangeAt Go.RowKit
set_option linter.unusedVariables false
set_option linter.unusedSimpArgs false

theorem fld_er0 (cd s v k x us : Int) (a : Option Addr) (n c : Nat) (w : World) : (Instr.field 48 (.agg #[.int .i64 cd, .int .i64 s, .int .i64 v, .int .i64 k, .int .i64 x, .slice a n c, .int .i64 us]) 0).run Tryd.prog w = .ok (.int .i64 cd) w := by kernel_rfl
theorem fld_int0 (x y : Int) (w : World) : (Instr.field 37 (.agg #[.int .i64 x, .int .i64 y]) 0).run Tryd.prog w = .ok (.int .i64 x) w := by kernel_rfl
theorem fld_b0 (y : Int) (a : Option Addr) (n c : Nat) (w : World) : (Instr.field 30 (.agg #[.int .i64 y, .slice a n c]) 0).run Tryd.prog w = .ok (.int .i64 y) w := by kernel_rfl

theorem lwBig_yes (w : World) (a : Option Addr) (len cap : Nat) (h : 1048576 < len) : Calls Tryd.prog 11 #[.slice a len cap] w fun r w' => r = .returned (.bool true) ∧ w' = w := by
  have h' : (1048576 : Int) < (len : Int) := by omega
  go_enter Tryd.func11, Tryd.ntmps11
  go_wp2
  go_ret
  exact ⟨ret_bool (by simp <;> omega), rfl⟩
theorem lwBig_no (w : World) (a : Option Addr) (len cap : Nat) (h : len ≤ 1048576) : Calls Tryd.prog 11 #[.slice a len cap] w fun r w' => r = .returned (.bool false) ∧ w' = w := by
  have h' : (len : Int) ≤ 1048576 := by omega
  go_enter Tryd.func11, Tryd.ntmps11
  go_wp2
  go_ret
  exact ⟨ret_bool (by simp <;> omega), rfl⟩

theorem take_at {P : Program} {ops : Array Oper} {Q : Exit → Act → World → Prop} {md : Region.Mode} {S : World → Prop} {i : Nat} {oi : Oper} {d : Option Nat} {v : Value} {fuel : Nat} {listed : Array Bool} {a : Act} {w : World} (hi : ops[i]? = some oi) (hd : oi.dst = d)
    (hs : Region.noSelect ops = true) (hf : Region.free md ops listed i = true) (hr : (Region.ready md ops listed).contains i = true)
    (hQ : ∀ c a w, Q (.panic c) (a.put d v) w → Q (.panic c) a w) (hy : YieldsIf P ops S oi v a) (hS : S w)
    (h : wpAnyH P md ops Q S fuel (listed.setIfInBounds i true) (a.put d v) w) : wpAnyH P md ops Q S (fuel + 1) listed a w := by
  subst hd
  exact wpAnyH_take hi hs hf hr hQ hy hS h

theorem lwBytes_any (a b : Option Addr) (ca cb : Nat) (zs ys : List Int) (w : World) (ha : Has w .u8 a zs.length zs) (hb : Has w .u8 b ys.length ys) :
    Calls Tryd.prog 20 #[.slice a zs.length ca, .slice b ys.length cb] w fun r w' => r = .returned (.bool (decide (zs = ys))) ∧ w' = w := by
  have s1 := ha.str ca
  have s2 := hb.str cb
  have hst := str_beq ha.2.1 hb.2.1
  have HS : Hid (_) := hst
  clear hst
  go_enter Tryd.func20, Tryd.ntmps20
  go_wp2
  go_ret
  exact ⟨ret_bool HS.out, rfl⟩

theorem fldI1 (x y : Int) (w : World) : (Instr.field 37 (.agg #[.int .i64 x, .int .i64 y]) 1).run Tryd.prog w = .ok (.int .i64 y) w := by kernel_rfl

/-- A result that holds an event, in a variable. -/
def Er (w : World) (p : Nat) (cd s v k x : Int) (a : Option Addr) (n c : Nat) (us : Int) : Prop := w.cell? ⟨p, 0, none⟩ = some (.int .i64 cd) ∧ w.cell? ⟨p, 1, none⟩ = some (.int .i64 s) ∧ w.cell? ⟨p, 2, none⟩ = some (.int .i64 v) ∧ w.cell? ⟨p, 3, none⟩ = some (.int .i64 k) ∧ w.cell? ⟨p, 4, none⟩ = some (.int .i64 x) ∧ w.cell? ⟨p, 5, none⟩ = some (.slice a n c) ∧ w.cell? ⟨p, 6, none⟩ = some (.int .i64 us)
theorem Er.below {w w' : World} {p n c B : Nat} {cd s v k x us : Int} {a : Option Addr} (h : Er w p cd s v k x a n c us) (hb : Below B w w') (hp : p < B) : Er w' p cd s v k x a n c us := by
  obtain ⟨h0, h1, h2, h3, h4, h5, h6⟩ := h
  exact ⟨(hb.cell (p := ⟨p, 0, none⟩) hp).trans h0, (hb.cell (p := ⟨p, 1, none⟩) hp).trans h1, (hb.cell (p := ⟨p, 2, none⟩) hp).trans h2, (hb.cell (p := ⟨p, 3, none⟩) hp).trans h3, (hb.cell (p := ⟨p, 4, none⟩) hp).trans h4, (hb.cell (p := ⟨p, 5, none⟩) hp).trans h5, (hb.cell (p := ⟨p, 6, none⟩) hp).trans h6⟩
theorem Er.mk {w w' : World} {p n c : Nat} {cd s v k x us : Int} {a a2 : Option Addr} (h : Er w p cd s v k x a n c us) (hm : Mk a2 w w') (hp : ∀ ad, a2 = some ad → p ≠ ad.block) : Er w' p cd s v k x a n c us := by
  obtain ⟨h0, h1, h2, h3, h4, h5, h6⟩ := h
  exact ⟨(hm.cell hp).trans h0, (hm.cell hp).trans h1, (hm.cell hp).trans h2, (hm.cell hp).trans h3, (hm.cell hp).trans h4, (hm.cell hp).trans h5, (hm.cell hp).trans h6⟩
theorem Er.new (w : World) (cd s v k x : Int) (a : Option Addr) (n c : Nat) (us : Int) (T : Nat) : Er (w.alloc (.cells #[.int .i64 cd, .int .i64 s, .int .i64 v, .int .i64 k, .int .i64 x, .slice a n c, .int .i64 us] T)) w.heap.size cd s v k x a n c us := by
  refine ⟨?_, ?_, ?_, ?_, ?_, ?_, ?_⟩ <;> simp [go_sem]

end Go.Proofs.YtngibnmcagogaaaDoor
