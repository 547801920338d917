/- Contracts: AcceptLeaf, of the model and of the program. -/
import Derived.Test.YtkjhcblfkpknlaaDoorLvl
import Derived.Test.YtkjhcblfkpknlaaDoorSBytes
namespace Go.Proofs.YtkjhcblfkpknlaaDoor
open Go.ChangeShapes Go.WideShapes Go.ChangeAt Go.RowKit
set_option linter.unusedVariables false
set_option linter.unusedSimpArgs false

/-- Whether a leaf is taken. -/
def acB (ds : List Int) (a s : Int) (p : List Int) (root : Int) : Bool := decide (leafC ds = 0 ∧ clC (leafV ds) a s p = 0 ∧ clV (leafV ds) a s p = root)

set_option maxHeartbeats 4000000 in
theorem specAccept_any (x y : Option Addr) (cx cy : Nat) (ds p : List Int) (a s root : Int) (w : World) (hd : Has w .u8 x ds.length ds) (hdl : ds.length ≤ 1048576) (hp : Has w .i64 y p.length p) (hl : p.length ≤ 1048576) (hc : p.length ≤ cy) (hm : cy ≤ maxLen) (hs : -9223372036854775808 ≤ s ∧ s ≤ 9223372036854775807) :
    Calls Tryd.prog 21 #[.slice x ds.length cx, .int .i64 a, .int .i64 s, .slice y p.length cy, .int .i64 root] w fun r w' => r = .returned (.bool (acB ds a s p root)) ∧ Below w.heap.size w w' := by
  have S1 : Hid (∀ (u : World), Below w.heap.size w u → Calls Tryd.prog 19 #[.int .i64 (leafV ds), .int .i64 a, .int .i64 s, .slice y p.length cy] u fun r w' => r = .returned (.agg #[.int .i64 (clC (leafV ds) a s p), .int .i64 (clV (leafV ds) a s p)]) ∧ Below u.heap.size u w') := fun u h => specClimb_any (leafV ds) a s y cy p u (hp.below h (Nat.le_refl _)) hl hc hm hs
  have S0 : Hid (Calls Tryd.prog 73 #[.slice x ds.length cx] w fun r w' => r = .returned (.agg #[.int .i64 (leafC ds), .int .i64 (leafV ds)]) ∧ Below w.heap.size w w') := specLeafS_any x cx ds w hd hdl
  unfold acB
  generalize leafV ds = lv at *
  generalize leafC ds = lc at *
  generalize clC lv a s p = cc at *
  generalize clV lv a s p = cv at *
  clear hd hdl hp hl hc hm hs
  have mid : ∀ (K : Prop → Prop), K True → K True := fun _ h => h
  clear mid
  by_cases h1 : lc = 0
  · by_cases h2 : cc = 0
    · have HD : Hid (decide (lc = 0 ∧ cc = 0 ∧ cv = root) = decide (cv = root)) := by show _ = _; simp [h1, h2]
      have h1' : (lc == 0) = true := by simpa using h1
      have h2' : (cc == 0) = true := by simpa using h2
      rw [HD.out]
      clear h1 h2 HD
      go_enter Tryd.func21, Tryd.ntmps21
      go_wp2_with fail
      refine S0.out.mono ?_
      rintro _ u1 ⟨rfl, hb1⟩
      have hz1 := hb1.size
      go_wp2_with fail
      refine (S1.out _ (hb1.alloc hz1 _)).mono ?_
      rintro _ u2 ⟨rfl, hb2⟩
      have hz2 := hb2.size
      obtain ⟨hc2, hf2⟩ := bcell hb2
      simp at hz2
      have hy2 : u1.heap.size < u2.heap.size := by omega
      go_wp2
      go_ret
      refine ⟨ret_bool (by rw [Bool.eq_iff_iff]; simp), ?_⟩
      repeat (first | exact Below.refl _ _ | (refine Below.alloc ?_ (by (try simp) <;> omega) _) | (refine Below.trans ?_ (hb2.mono (by (try simp) <;> omega))) | (refine Below.trans ?_ (hb1.mono (by (try simp) <;> omega))))
    · have HD : Hid (decide (lc = 0 ∧ cc = 0 ∧ cv = root) = false) := by show _ = _; simp [h2]
      have h1' : (lc == 0) = true := by simpa using h1
      have h2' : (cc == 0) = false := by simpa using h2
      rw [HD.out]
      clear h1 h2 HD
      go_enter Tryd.func21, Tryd.ntmps21
      go_wp2_with fail
      refine S0.out.mono ?_
      rintro _ u1 ⟨rfl, hb1⟩
      have hz1 := hb1.size
      go_wp2_with fail
      refine (S1.out _ (hb1.alloc hz1 _)).mono ?_
      rintro _ u2 ⟨rfl, hb2⟩
      have hz2 := hb2.size
      obtain ⟨hc2, hf2⟩ := bcell hb2
      simp at hz2
      have hy2 : u1.heap.size < u2.heap.size := by omega
      go_wp2
      go_ret
      refine ⟨rfl, ?_⟩
      repeat (first | exact Below.refl _ _ | (refine Below.alloc ?_ (by (try simp) <;> omega) _) | (refine Below.trans ?_ (hb2.mono (by (try simp) <;> omega))) | (refine Below.trans ?_ (hb1.mono (by (try simp) <;> omega))))
  · have HD : Hid (decide (lc = 0 ∧ cc = 0 ∧ cv = root) = false) := by show _ = _; simp [h1]
    have h1' : (lc == 0) = false := by simpa using h1
    rw [HD.out]
    clear h1 HD
    go_enter Tryd.func21, Tryd.ntmps21
    go_wp2_with fail
    refine S0.out.mono ?_
    rintro _ u1 ⟨rfl, hb1⟩
    have hz1 := hb1.size
    go_wp2_with fail
    refine (S1.out _ (hb1.alloc hz1 _)).mono ?_
    rintro _ u2 ⟨rfl, hb2⟩
    have hz2 := hb2.size
    obtain ⟨hc2, hf2⟩ := bcell hb2
    simp at hz2
    have hy2 : u1.heap.size < u2.heap.size := by omega
    go_wp2
    go_ret
    refine ⟨rfl, ?_⟩
    repeat (first | exact Below.refl _ _ | (refine Below.alloc ?_ (by (try simp) <;> omega) _) | (refine Below.trans ?_ (hb2.mono (by (try simp) <;> omega))) | (refine Below.trans ?_ (hb1.mono (by (try simp) <;> omega))))

set_option maxHeartbeats 4000000 in
theorem implAccept_any (x y : Option Addr) (cx cy : Nat) (ds p : List Int) (a s root : Int) (w : World) (hT : Tab w) (hd : Has w .u8 x ds.length ds) (hp : Has w .i64 y p.length p) (hl : p.length ≤ 1048576) (hc : p.length ≤ cy) (hm : cy ≤ maxLen) :
    Calls Tryd.prog 20 #[.slice x ds.length cx, .int .i64 a, .int .i64 s, .slice y p.length cy, .int .i64 root] w fun r w' => r = .returned (.bool (acB ds a s p root)) ∧ Below w.heap.size w w' := by
  have S1 : Hid (∀ (u : World), Below w.heap.size w u → Calls Tryd.prog 17 #[.int .i64 (leafV ds), .int .i64 a, .int .i64 s, .slice y p.length cy] u fun r w' => r = .returned (.agg #[.int .i64 (clC (leafV ds) a s p), .int .i64 (clV (leafV ds) a s p)]) ∧ Below u.heap.size u w') := fun u h => implClimb_any (leafV ds) a s y cy p u (hT.below h (Nat.le_refl _)) (hp.below h (Nat.le_refl _)) hl hc hm
  have S0 : Hid (Calls Tryd.prog 72 #[.slice x ds.length cx] w fun r w' => r = .returned (.agg #[.int .i64 (leafC ds), .int .i64 (leafV ds)]) ∧ Below w.heap.size w w') := implLeafSum_any x cx ds w hT hd
  unfold acB
  generalize leafV ds = lv at *
  generalize leafC ds = lc at *
  generalize clC lv a s p = cc at *
  generalize clV lv a s p = cv at *
  clear hd hp hl hc hm hT
  by_cases h1 : lc = 0
  · have h1' : (lc != 0) = false := by simpa using h1
    by_cases h2 : cc = 0
    · have HD : Hid (decide (lc = 0 ∧ cc = 0 ∧ cv = root) = decide (cv = root)) := by show _ = _; simp [h1, h2]
      have h2' : (cc == 0) = true := by simpa using h2
      rw [HD.out]
      clear h1 h2 HD
      go_enter Tryd.func20, Tryd.ntmps20
      go_wp2_with fail
      refine S0.out.mono ?_
      rintro _ u1 ⟨rfl, hb1⟩
      have hz1 := hb1.size
      go_wp2_with fail
      refine (S1.out _ (hb1.alloc hz1 _)).mono ?_
      rintro _ u2 ⟨rfl, hb2⟩
      have hz2 := hb2.size
      simp at hz2
      go_wp2
      go_ret
      refine ⟨ret_bool (by rw [Bool.eq_iff_iff]; simp), ?_⟩
      repeat (first | exact Below.refl _ _ | (refine Below.alloc ?_ (by (try simp) <;> omega) _) | (refine Below.trans ?_ (hb2.mono (by (try simp) <;> omega))) | (refine Below.trans ?_ (hb1.mono (by (try simp) <;> omega))))
    · have HD : Hid (decide (lc = 0 ∧ cc = 0 ∧ cv = root) = false) := by show _ = _; simp [h2]
      have h2' : (cc == 0) = false := by simpa using h2
      rw [HD.out]
      clear h1 h2 HD
      go_enter Tryd.func20, Tryd.ntmps20
      go_wp2_with fail
      refine S0.out.mono ?_
      rintro _ u1 ⟨rfl, hb1⟩
      have hz1 := hb1.size
      go_wp2_with fail
      refine (S1.out _ (hb1.alloc hz1 _)).mono ?_
      rintro _ u2 ⟨rfl, hb2⟩
      have hz2 := hb2.size
      simp at hz2
      go_wp2
      go_ret
      refine ⟨rfl, ?_⟩
      repeat (first | exact Below.refl _ _ | (refine Below.alloc ?_ (by (try simp) <;> omega) _) | (refine Below.trans ?_ (hb2.mono (by (try simp) <;> omega))) | (refine Below.trans ?_ (hb1.mono (by (try simp) <;> omega))))
  · have HD : Hid (decide (lc = 0 ∧ cc = 0 ∧ cv = root) = false) := by show _ = _; simp [h1]
    have h1' : (lc != 0) = true := by simpa using h1
    rw [HD.out]
    clear h1 HD
    go_enter Tryd.func20, Tryd.ntmps20
    go_wp2_with fail
    refine S0.out.mono ?_
    rintro _ u1 ⟨rfl, hb1⟩
    have hz1 := hb1.size
    go_wp2
    go_ret
    refine ⟨rfl, ?_⟩
    repeat (first | exact Below.refl _ _ | (refine Below.alloc ?_ (by (try simp) <;> omega) _) | (refine Below.trans ?_ (hb1.mono (by (try simp) <;> omega))))

end Go.Proofs.YtkjhcblfkpknlaaDoor
