/- Contracts of the program's chapter 3: an event taken from a reader. -/
import Derived.Test.YtngibnmcagogaaaDoorTake
namespace Go.Proofs.YtngibnmcagogaaaDoor
open Go.ChangeShapes Go.WideShapes Go.ChangeAt Go.RowKit
set_option maxRecDepth 100000
set_option linter.unusedVariables false
set_option linter.unusedSimpArgs false

/-- What a reader has behind a take of n bytes: the number they tell, what is left, how many were used, whether it was cut. -/
structure Rd where
  rs : List Int
  u : Int
  k : Bool
def Rd.cutB (d : Rd) (n : Nat) : Bool := decide (d.rs.length < n)
def Rd.num (d : Rd) (n : Nat) : Int := if d.rs.length < n then 0 else wrap64 (getN (d.rs.take n) n)
def Rd.next (d : Rd) (n : Nat) : Rd := if d.rs.length < n then ⟨d.rs, d.u, true⟩ else ⟨d.rs.drop n, d.u + n, d.k⟩
def Rd.note (d : Rd) (n : Nat) : List Int := if d.rs.length < n then [] else d.rs.take n
theorem getN_nil : wrap64 (getN [] 0) = 0 := by simp [getN, wrap64]
theorem Rd.next_len (d : Rd) (n : Nat) : (d.next n).rs.length ≤ d.rs.length := by unfold Rd.next; split <;> simp
theorem Rd.next_u (d : Rd) (n : Nat) (h0 : 0 ≤ d.u) : 0 ≤ (d.next n).u ∧ (d.next n).u ≤ d.u + n := by unfold Rd.next; split <;> simp <;> omega
theorem Only.below' {p B : Nat} {w w' : World} (h : Only p w w') (hp : B ≤ p) (hw : B ≤ w.heap.size) : Below B w w' := h.below hp hw

theorem takeR_any (B p n : Nat) (d : Rd) (w : World) (h : RdAt w B p d.rs d.u d.k) (hn : n ≤ 255) (hl : d.rs.length ≤ 1048576) (u0 : 0 ≤ d.u) (u1 : d.u ≤ 1048576) :
    Calls Tryd.prog 95 #[.pointer (some ⟨p, 0, none⟩), .int .i64 n] w fun r w' => ∃ a' c', r = .returned (.slice a' (d.note n).length c') ∧ w'.ownsRow w.heap.size 5 1 (.slice a' (d.note n).length c') (d.note n).length ((d.note n).map (.int .u8)) ∧ RdAt w' B p (d.next n).rs (d.next n).u (d.next n).k ∧ Only p w w' := by
  unfold Rd.note Rd.next
  by_cases hc : d.rs.length < n
  · rw [if_pos hc, if_pos hc]
    refine (take_cut B p n d.rs d.u d.k w h hn hl hc).mono ?_
    rintro r w' ⟨rfl, h1, h2⟩
    exact ⟨none, 0, rfl, nil_own _ _ _, h1, h2⟩
  · rw [if_neg hc, if_neg hc]
    refine (take_ok B p n d.rs d.u d.k w h hn hl (by omega) u0 u1).mono ?_
    rintro r w' ⟨rfl, h1, h2, h3⟩
    have e : (d.rs.take n).length = n := by simp; omega
    rw [e]
    exact ⟨_, _, rfl, h1, h2, h3⟩

theorem note_wf (d : Rd) (n : Nat) (h : ∀ x ∈ d.rs, (Lit.int .u8 x).wf = true) : ∀ x ∈ d.note n, (Lit.int .u8 x).wf = true := by
  unfold Rd.note
  split
  · simp
  · exact fun x hx => h x (List.mem_of_mem_take hx)
theorem num_eq (d : Rd) (n : Nat) : wrap64 (getN (d.note n) (d.note n).length) = d.num n := by
  unfold Rd.note Rd.num
  split
  · exact getN_nil
  · have e : (d.rs.take n).length = n := by simp; omega
    rw [e]
theorem RdAt.wf {w : World} {B p : Nat} {rs : List Int} {u : Int} {k : Bool} (h : RdAt w B p rs u k) : ∀ x ∈ rs, (Lit.int .u8 x).wf = true := by
  obtain ⟨_, _, _, _, _, _, hd⟩ := h.ex
  exact hd.1

set_option maxHeartbeats 1000000 in
theorem takeNumber_any (B p n : Nat) (d : Rd) (w : World) (h : RdAt w B p d.rs d.u d.k) (hn : n ≤ 255) (hl : d.rs.length ≤ 1048576) (u0 : 0 ≤ d.u) (u1 : d.u ≤ 1048576) :
    Calls Tryd.prog 94 #[.pointer (some ⟨p, 0, none⟩), .int .i64 n] w fun r w' => r = .returned (.int .i64 (d.num n)) ∧ RdAt w' B p (d.next n).rs (d.next n).u (d.next n).k ∧ Only p w w' := by
  have hnl : (d.note n).length ≤ 255 := by unfold Rd.note; split <;> simp; omega
  have NW : Hid (∀ x ∈ d.note n, (Lit.int .u8 x).wf = true) := note_wf d n h.wf
  have NE : Hid (wrap64 (getN (d.note n) (d.note n).length) = d.num n) := num_eq d n
  go_enter Tryd.func94, Tryd.ntmps94
  go_wp2_with fail
  refine (takeR_any B p n d w h hn hl u0 u1).mono ?_
  rintro r u2 ⟨a2, c2, rfl, O2, R2, Y2⟩
  have P2 := has_of_own O2 NW.out
  clear O2 h
  go_wp2_with fail
  refine (numberOf_any a2 c2 (d.note n) _ P2 (by omega)).mono ?_
  rintro r u3 ⟨rfl, rfl⟩
  go_wp2
  go_ret
  exact ⟨ret_int NE.out, R2, Y2⟩

end Go.Proofs.YtngibnmcagogaaaDoor
