/- Contracts: the program's climbing of a path. -/
import Derived.Test.YtjiamihidnofmaaDoorClimb4S
import Derived.Test.YtjiamihidnofmaaDoorISums
namespace Go.Proofs.YtjiamihidnofmaaDoor
open Go.ChangeShapes Go.WideShapes Go.ChangeAt Go.RowKit
set_option linter.unusedVariables false
set_option linter.unusedSimpArgs false

theorem nodeV_nS {a b : Int} (h : (0 ≤ a ∧ a ≤ 65520) ∧ 0 ≤ b ∧ b ≤ 65520) : nodeV a b = nS a b := by unfold nodeV nS; rw [if_pos h]

theorem firstSide_any (a : Int) (w : World) (h : 0 ≤ a) : Calls Tryd.prog 113 #[.int .i64 a] w fun r w' => r = .returned (.bool (decide (a % 2 = 0))) ∧ w' = w := by
  go_enter Tryd.func113, Tryd.ntmps113
  go_wp2
  go_ret
  refine ⟨ret_bool ?_, rfl⟩
  rw [Bool.eq_iff_iff]
  simp

theorem aloneAt_any (a s : Int) (w : World) (h : 0 ≤ a) (hs : 1 ≤ s) (hs' : s ≤ 1000000) : Calls Tryd.prog 102 #[.int .i64 a, .int .i64 s] w fun r w' => r = .returned (.bool (alone a s)) ∧ w' = w := by
  by_cases he : a % 2 = 0
  · have hd : decide (a % 2 = 0) = true := by simpa using he
    go_enter Tryd.func102, Tryd.ntmps102
    go_wp2_with (go_at_call 113; refine (firstSide_any a _ h).mono ?_; rintro r u ⟨rfl, rfl⟩; rw [hd])
    go_ret
    refine ⟨ret_bool ?_, rfl⟩
    unfold alone
    rw [Bool.eq_iff_iff]
    simp
    omega
  · have hd : decide (a % 2 = 0) = false := by simpa using he
    have HE : Hid (¬ a % 2 = 0) := he
    clear he
    go_enter Tryd.func102, Tryd.ntmps102
    go_wp2_with (go_at_call 113; refine (firstSide_any a _ h).mono ?_; rintro r u ⟨rfl, rfl⟩; rw [hd])
    go_ret
    refine ⟨ret_bool ?_, rfl⟩
    unfold alone
    have := HE.out
    rw [Bool.eq_iff_iff]
    simp
    omega

/-- The first of a pair. -/
def prA (a own other : Int) : Int := if a % 2 = 0 then own else other
/-- The second of a pair. -/
def prB (a own other : Int) : Int := if a % 2 = 0 then other else own
theorem joinAt_pr (f : Int → Int → Int) (a own other : Int) : joinAt f a own other = f (prA a own other) (prB a own other) := by
  unfold joinAt prA prB; split <;> rfl

theorem pairAt_any (a own other : Int) (w : World) (h : 0 ≤ a) :
    Calls Tryd.prog 103 #[.int .i64 a, .int .i64 own, .int .i64 other] w fun r w' => r = .returned (.agg #[.int .i64 (prA a own other), .int .i64 (prB a own other), .bool false]) ∧ Below w.heap.size w w' := by
  unfold prA prB
  by_cases he : a % 2 = 0
  · have hd : decide (a % 2 = 0) = true := by simpa using he
    rw [if_pos he, if_pos he]
    clear he
    go_enter Tryd.func103, Tryd.ntmps103
    go_wp2_with (go_at_call 113; refine (firstSide_any a _ h).mono ?_; rintro r u ⟨rfl, rfl⟩; rw [hd])
    exact bodyPost_ret (v := .agg #[.int .i64 own, .int .i64 other, .bool false]) (by simp [results, Tryd.results103, go_sem]) rfl ⟨rfl, by repeat (first | exact Below.refl _ _ | refine Below.alloc ?_ (by simp) _ | refine Below.setCell ?_ (by simp) _)⟩
  · have hd : decide (a % 2 = 0) = false := by simpa using he
    rw [if_neg he, if_neg he]
    clear he
    go_enter Tryd.func103, Tryd.ntmps103
    go_wp2_with (go_at_call 113; refine (firstSide_any a _ h).mono ?_; rintro r u ⟨rfl, rfl⟩; rw [hd])
    exact bodyPost_ret (v := .agg #[.int .i64 other, .int .i64 own, .bool false]) (by simp [results, Tryd.results103, go_sem]) rfl ⟨rfl, by repeat (first | exact Below.refl _ _ | refine Below.alloc ?_ (by simp) _ | refine Below.setCell ?_ (by simp) _)⟩

theorem fldR1 (x y : Int) (w : World) : (Instr.field 38 (.agg #[.int .i64 x, .int .i64 y]) 1).run Tryd.prog w = .ok (.int .i64 y) w := by kernel_rfl
/-- What a pair comes to. -/
def jn (a b : Int) (al : Bool) : Int := if al = true then a else nS a b
theorem joined_any (a b : Int) (al : Bool) (w : World) (hT : Tab w) (ha : 0 ≤ a ∧ a ≤ 65520) (hb : al = false → 0 ≤ b ∧ b ≤ 65520) :
    Calls Tryd.prog 101 #[.agg #[.int .i64 a, .int .i64 b, .bool al]] w fun r w' => r = .returned (.int .i64 (jn a b al)) ∧ Below w.heap.size w w' := by
  cases al
  · have hbb := hb rfl
    have HN : Hid (nodeV a b = jn a b false) := nodeV_nS ⟨ha, hbb⟩
    clear hb
    have F1 := fldR1
    go_enter Tryd.func101, Tryd.ntmps101
    go_wp2_with fail
    refine (implNodeSum_any a b _ (hT.alloc _)).mono ?_
    rintro r u1 ⟨rfl, hb1⟩
    rw [HN.out]
    go_wp2
    go_ret
    exact ⟨rfl, ((Below.refl _ _).alloc (Nat.le_refl _) _).trans (hb1.mono (by simp))⟩
  · go_enter Tryd.func101, Tryd.ntmps101
    go_wp2
    go_ret
    exact ⟨rfl, (Below.refl _ _).alloc (Nat.le_refl _) _⟩

/-- The code of a climb whose numbers are in their bounds. -/
def cpC (a s : Int) (q : List Int) : Int := if q.length = stN a s then 0 else 8
/-- What it comes to. -/
def cpV (r a s : Int) (q : List Int) : Int := if q.length = stN a s then clM nS r a s q else 0
theorem cp_alone {r a s : Int} {q : List Int} (h2 : 2 ≤ s) (h3 : s ≤ 32) (ha : 0 ≤ a) (hs : a < s) (hal : alone a s = true) : cpC (a / 2) ((s + 1) / 2) q = cpC a s q ∧ cpV r (a / 2) ((s + 1) / 2) q = cpV r a s q := by
  have e := stN_up _ a s (Nat.le_refl _) h2 h3 ha hs
  rw [hal, if_pos rfl, Nat.add_zero] at e
  unfold cpC cpV
  rw [e, clM_alone nS _ r a s q (Nat.le_refl _) h2 h3 ha hs hal]
  exact ⟨rfl, rfl⟩
theorem cp_pair {r a s p0 : Int} {q : List Int} (h2 : 2 ≤ s) (h3 : s ≤ 32) (ha : 0 ≤ a) (hs : a < s) (hal : alone a s = false) : cpC (a / 2) ((s + 1) / 2) q = cpC a s (p0 :: q) ∧ cpV (jn (prA a r p0) (prB a r p0) false) (a / 2) ((s + 1) / 2) q = cpV r a s (p0 :: q) := by
  have e := stN_up _ a s (Nat.le_refl _) h2 h3 ha hs
  rw [hal] at e
  simp at e
  have ej : jn (prA a r p0) (prB a r p0) false = joinAt nS a r p0 := by rw [joinAt_pr]; rfl
  unfold cpC cpV
  rw [e, ej]
  by_cases hq : q.length = stN (a / 2) ((s + 1) / 2)
  · have hq' : (p0 :: q).length = stN (a / 2) ((s + 1) / 2) + 1 := by simp [hq]
    rw [if_pos hq, if_pos hq, if_pos hq', if_pos hq', clM_pair nS _ r a s p0 q (Nat.le_refl _) h2 h3 ha hs hal hq]
    exact ⟨rfl, rfl⟩
  · have hq' : ¬ (p0 :: q).length = stN (a / 2) ((s + 1) / 2) + 1 := by simp [hq]
    rw [if_neg hq, if_neg hq, if_neg hq', if_neg hq']
    exact ⟨rfl, rfl⟩
theorem cp_nil {r a s : Int} (h2 : 2 ≤ s) (h3 : s ≤ 32) (ha : 0 ≤ a) (hs : a < s) (hal : alone a s = false) : cpC a s [] = 8 ∧ cpV r a s [] = 0 := by
  have e := stN_up _ a s (Nat.le_refl _) h2 h3 ha hs
  rw [hal] at e
  simp at e
  unfold cpC cpV
  rw [e, if_neg (by simp), if_neg (by simp)]
  exact ⟨rfl, rfl⟩
theorem cp_one {r a s : Int} {q : List Int} (h : s ≤ 1) : cpC a s q = (if q.length = 0 then 0 else 8) ∧ cpV r a s q = (if q.length = 0 then r else 0) := by
  unfold cpC cpV
  rw [stN_le a s h, clM_le nS r a s q h]
  exact ⟨rfl, rfl⟩
theorem jn_bd {a b : Int} {al : Bool} (ha : 0 ≤ a ∧ a ≤ 65520) : 0 ≤ jn a b al ∧ jn a b al ≤ 65520 := by
  unfold jn; split
  · exact ha
  · exact nS_bd _ _
theorem allS_cons {p : Int} {q : List Int} (h : allS (p :: q) = true) : (0 ≤ p ∧ p ≤ 65520) ∧ allS q = true := by
  unfold allS at *; simp at h; exact ⟨h.1, by simpa using h.2⟩
theorem Has.tail {w : World} {b o : Nat} {p : Int} {q : List Int} (h : Has w .i64 (some ⟨b, o, none⟩) (p :: q).length (p :: q)) : Has w .i64 (some ⟨b, o + 1, none⟩) q.length q := by
  refine ⟨rfl, fun x hx => h.2.1 x (List.mem_cons_of_mem _ hx), ?_⟩
  rcases h.2.2 with c | ⟨b', off', e, hlt, hc⟩
  · simp at c
  · simp at e
    obtain ⟨rfl, rfl⟩ := e
    refine .inr ⟨b, o + 1, rfl, hlt, fun j hj => ?_⟩
    have := hc (1 + j) (by simp; omega)
    rw [show o + 1 + j = o + (1 + j) by omega, this]
    simp [List.getD, show 1 + j = j + 1 by omega]

set_option maxHeartbeats 4000000 in
theorem climbByPath_any (l a0 s0 : Int) (x : Option Addr) (c : Nat) (p : List Int) (w : World) (hT : Tab w) (hl : 0 ≤ l ∧ l ≤ 65520) (h1 : 0 ≤ a0) (h2 : a0 < s0) (h3 : s0 ≤ 24) (hp : Has w .i64 x p.length p) (hall : allS p = true) (hc : p.length ≤ c) (hm : c ≤ maxLen) :
    Calls Tryd.prog 77 #[.int .i64 l, .int .i64 a0, .int .i64 s0, .slice x p.length c] w fun r w' => r = .returned (.agg #[.int .i64 (cpC a0 s0 p), .int .i64 (cpV l a0 s0 p)]) ∧ Below w.heap.size w w' := by
  obtain ⟨C0, hC0⟩ : ∃ C0, C0 = cpC a0 s0 p := ⟨_, rfl⟩
  obtain ⟨V0, hV0⟩ : ∃ V0, V0 = cpV l a0 s0 p := ⟨_, rfl⟩
  rw [← hC0, ← hV0]
  have E0 : Hid (cpC a0 s0 p = C0 ∧ cpV l a0 s0 p = V0) := ⟨hC0.symm, hV0.symm⟩
  clear hC0 hV0
  have HP : Hid (Has (w.alloc (.cells #[.int .i64 0, .int .i64 0] 38)) .i64 x p.length p) := hp.alloc _
  have HT : Hid (Tab (w.alloc (.cells #[.int .i64 0, .int .i64 0] 38))) := hT.alloc _
  clear hp
  go_enter Tryd.func77, Tryd.ntmps77
  go_wp2
  go_loopw [1, 2, 9, 10] (fun x1 x2 x9 x10 wr => ∃ (a s r : Int) (q : List Int) (ad : Option Addr) (c' : Nat), x1 = .int .i64 a ∧ x2 = .int .i64 s ∧ x9 = .int .i64 r ∧ x10 = .slice ad q.length c' ∧ 0 ≤ a ∧ a < s ∧ s ≤ 24 ∧ 0 ≤ r ∧ r ≤ 65520 ∧ allS q = true ∧ q.length ≤ c' ∧ c' ≤ maxLen ∧ (cpC a s q = C0 ∧ cpV r a s q = V0) ∧ Has wr .i64 ad q.length q ∧ Below (w.alloc (.cells #[.int .i64 0, .int .i64 0] 38)).heap.size (w.alloc (.cells #[.int .i64 0, .int .i64 0] 38)) wr) (fun _ x2 _ _ _ => (intOf x2).toNat)
  case atStart => exact ⟨a0, s0, l, p, x, c, rfl, rfl, rfl, rfl, h1, h2, h3, hl.1, hl.2, hall, hc, hm, E0.out, HP.out, Below.refl _ _⟩
  case round =>
    clear HP E0 hall hc hm h1 h2 h3 hl
    obtain ⟨a, s, r, q, ad, c', rfl, rfl, rfl, rfl, g1, g2, g3, g4, g5, hall, hc, hm, he, hq, hb⟩ := hrel
    have HE : Hid (cpC a s q = C0 ∧ cpV r a s q = V0) := he
    clear he
    unfold maxLen at hm
    have Tr : Hid (Tab wr) := HT.out.below hb (Nat.le_refl _)
    obtain ⟨hc1, hf1⟩ := bcell hb
    have hz := hb.size
    simp at hz
    by_cases hs : 1 < s
    · cases hal : alone a s
      · cases q with
        | nil =>
          have hE := cp_nil (r := r) (a := a) (s := s) (by omega) (by omega) g1 g2 hal
          have EC : Hid (C0 = 8) := by show _ = _; rw [← HE.out.1, hE.1]
          have EV : Hid (V0 = 0) := by show _ = _; rw [← HE.out.2, hE.2]
          clear HE hE
          go_wp2_with (go_at_call 102; refine (aloneAt_any a s _ g1 (by omega) (by omega)).mono ?_; rintro r u ⟨rfl, rfl⟩; rw [hal])
          refine bodyPost_ret (v := .agg #[.int .i64 8, .int .i64 0]) (by simp [results, Tryd.results77, go_sem, hc1]) rfl ⟨by rw [EC.out, EV.out], ?_⟩
          repeat (first | exact Below.refl _ _ | (refine Below.setCell ?_ (by (try simp) <;> omega) _) | (refine Below.trans ?_ (hb.mono (by (try simp) <;> omega))) | (refine Below.alloc ?_ (by (try simp) <;> omega) _))
        | cons p0 q =>
          obtain ⟨b1, o1, hx, hb1, hcell⟩ : ∃ b off, ad = some ⟨b, off, none⟩ ∧ b < wr.heap.size ∧ ∀ i, i < (p0 :: q).length → wr.cell? ⟨b, off + i, none⟩ = some (.int .i64 ((p0 :: q).getD i 0)) := by
            rcases hq.2.2 with c | h
            · simp at c
            · exact h
          subst hx
          have e1 : wr.cell? ⟨b1, o1, none⟩ = some (.int .i64 p0) := by have := hcell 0 (by simp); simpa using this
          simp only [List.length_cons] at hc
          have hq' : Has wr .i64 (if c' = 1 then some ⟨b1, o1, none⟩ else some ⟨b1, o1 + 1, none⟩) q.length q := by
            by_cases h1 : c' = 1
            · exact ⟨rfl, fun x hx => hq.2.1 x (List.mem_cons_of_mem _ hx), .inl (by omega)⟩
            · rw [if_neg h1]; exact hq.tail
          have HH : Hid (_) := cp_pair (r := r) (a := a) (s := s) (p0 := p0) (q := q) (by omega) (by omega) g1 g2 hal
          obtain ⟨s1, s2⟩ := allS_cons hall
          clear hcell hq
          have hlen : (p0 :: q).length = q.length + 1 := rfl
          go_wp2_with (go_at_call 102; refine (aloneAt_any a s _ g1 (by omega) (by omega)).mono ?_; rintro r u ⟨rfl, rfl⟩; rw [hal])
          refine (pairAt_any a r p0 _ g1).mono ?_
          rintro _ u1 ⟨rfl, hb1'⟩
          have hz1 := hb1'.size
          go_wp2_with fail
          refine (joined_any (prA a r p0) (prB a r p0) false _ (Tr.out.below hb1' (Nat.le_refl _)) (by unfold prA; split <;> omega) (fun _ => by unfold prB; split <;> omega)).mono ?_
          rintro _ u2 ⟨rfl, hb2⟩
          have hB := hb1'.trans (hb2.mono hz1)
          have hjb := jn_bd (a := prA a r p0) (b := prB a r p0) (al := false) (by unfold prA; split <;> omega)
          generalize jn (prA a r p0) (prB a r p0) false = jv at HH hjb
          go_wp2
          go_roundw
          case rel => exact ⟨a / 2, (s + 1) / 2, jv, q, _, c' - 1, rfl, rfl, rfl, rfl, by omega, by omega, by omega, hjb.1, hjb.2, s2, by omega, by unfold maxLen; omega, ⟨HH.out.1.trans HE.out.1, HH.out.2.trans HE.out.2⟩, hq'.below hB (Nat.le_refl _), hb.trans (hB.mono hb.size)⟩
          case measure => simp [intOf]; omega
      · have HH : Hid (_) := cp_alone (r := r) (a := a) (s := s) (q := q) (by omega) (by omega) g1 g2 hal
        go_wp2_with (go_at_call 102; refine (aloneAt_any a s _ g1 (by omega) (by omega)).mono ?_; rintro r u ⟨rfl, rfl⟩; rw [hal])
        go_roundw
        case rel => exact ⟨a / 2, (s + 1) / 2, r, q, ad, c', rfl, rfl, rfl, rfl, by omega, by have : a % 2 = 0 ∧ a = s - 1 := (by simpa [alone] using hal); omega, by omega, g4, g5, hall, hc, by unfold maxLen; omega, ⟨HH.out.1.trans HE.out.1, HH.out.2.trans HE.out.2⟩, hq, hb⟩
        case measure => simp [intOf]; omega
    · have hE := cp_one (r := r) (a := a) (s := s) (q := q) (by omega)
      by_cases h0 : q.length = 0
      · have EC : Hid (C0 = 0) := by show _ = _; rw [← HE.out.1, hE.1, if_pos h0]
        have EV : Hid (V0 = r) := by show _ = _; rw [← HE.out.2, hE.2, if_pos h0]
        have h0' : ¬ (0 : Int) < (q.length : Int) := by omega
        clear HE hE h0
        go_wp2
        refine bodyPost_ret (v := .agg #[.int .i64 0, .int .i64 r]) (by simp [results, Tryd.results77, go_sem, hc1]) rfl ⟨by rw [EC.out, EV.out], ?_⟩
        repeat (first | exact Below.refl _ _ | (refine Below.setCell ?_ (by (try simp) <;> omega) _) | (refine Below.trans ?_ (hb.mono (by (try simp) <;> omega))) | (refine Below.alloc ?_ (by (try simp) <;> omega) _))
      · have EC : Hid (C0 = 8) := by show _ = _; rw [← HE.out.1, hE.1, if_neg h0]
        have EV : Hid (V0 = 0) := by show _ = _; rw [← HE.out.2, hE.2, if_neg h0]
        have h0' : (0 : Int) < (q.length : Int) := by omega
        clear HE hE h0
        go_wp2
        refine bodyPost_ret (v := .agg #[.int .i64 8, .int .i64 0]) (by simp [results, Tryd.results77, go_sem, hc1]) rfl ⟨by rw [EC.out, EV.out], ?_⟩
        repeat (first | exact Below.refl _ _ | (refine Below.setCell ?_ (by (try simp) <;> omega) _) | (refine Below.trans ?_ (hb.mono (by (try simp) <;> omega))) | (refine Below.alloc ?_ (by (try simp) <;> omega) _))

set_option maxHeartbeats 2000000 in
theorem implClimb_any (l a s : Int) (x : Option Addr) (c : Nat) (p : List Int) (w : World) (hT : Tab w) (hp : Has w .i64 x p.length p) (hl : p.length ≤ 1048576) (hc : p.length ≤ c) (hm : c ≤ maxLen) :
    Calls Tryd.prog 28 #[.int .i64 l, .int .i64 a, .int .i64 s, .slice x p.length c] w fun r w' => r = .returned (.agg #[.int .i64 (clC l a s p), .int .i64 (clV l a s p)]) ∧ Below w.heap.size w w' := by
  by_cases hin : (0 ≤ l ∧ l ≤ 65520) ∧ (1 ≤ s ∧ s ≤ 24) ∧ 0 ≤ a ∧ a < s
  · obtain ⟨h1, h2, h3⟩ := hin
    have d1 : decide (0 ≤ l ∧ l ≤ 65520) = true := by simpa using h1
    have n1 : ¬ s < 1 := by omega
    have n2 : ¬ 24 < s := by omega
    have n3 : ¬ a < 0 := by omega
    have n4 : ¬ s ≤ a := by omega
    by_cases h6 : 6 < p.length
    · have h6' : (6 : Int) < (p.length : Int) := by omega
      have e := clC_many (p := p) ⟨h1, h2, h3⟩ h6
      rw [clV_of (by rw [e]; decide), e]
      clear e
      go_enter Tryd.func28, Tryd.ntmps28
      go_wp2_with (first | (go_at_call 75; refine (isSumF_any l _).mono ?_; rintro r u ⟨rfl, rfl⟩; rw [d1]))
      refine bodyPost_ret (v := .agg #[.int .i64 2, .int .i64 0]) (by simp [results, Tryd.results28, go_sem]) rfl ⟨rfl, ?_⟩
      repeat (first | exact Below.refl _ _ | (refine Below.alloc ?_ (by (try simp) <;> omega) _) | (refine Below.setCell ?_ (by (try simp) <;> omega) _))
    · have h6' : ¬ (6 : Int) < (p.length : Int) := by omega
      cases ha : allS p
      · have e := clC_sum (p := p) ⟨h1, h2, h3⟩ h6 ha
        rw [clV_of (by rw [e]; decide), e]
        clear e
        have hsu : suF p = 3 := by unfold suF; rw [ha]; rfl
        go_enter Tryd.func28, Tryd.ntmps28
        go_wp2_with (first | (go_at_call 75; refine (isSumF_any l _).mono ?_; rintro r u ⟨rfl, rfl⟩; rw [d1]) | (go_at_call 76; refine (sumsFault_any _ _ p _ (hp.alloc _) hl).mono ?_; rintro r u ⟨rfl, rfl⟩; rw [hsu]))
        refine bodyPost_ret (v := .agg #[.int .i64 3, .int .i64 0]) (by simp [results, Tryd.results28, go_sem]) rfl ⟨rfl, ?_⟩
        repeat (first | exact Below.refl _ _ | (refine Below.alloc ?_ (by (try simp) <;> omega) _) | (refine Below.setCell ?_ (by (try simp) <;> omega) _))
      · have e := clC_len (p := p) ⟨h1, h2, h3⟩ h6 ha
        have e1 : clC l a s p = cpC a s p := e
        have e2 : clV l a s p = cpV l a s p := by
          unfold clV
          rw [e]
          unfold cpV
          by_cases hq : p.length = stN a s
          · simp [hq]
          · simp [hq]
        rw [e1, e2]
        clear e e1 e2
        have hsu : suF p = 0 := by unfold suF; rw [ha]; rfl
        go_enter Tryd.func28, Tryd.ntmps28
        go_wp2_with (first | (go_at_call 75; refine (isSumF_any l _).mono ?_; rintro r u ⟨rfl, rfl⟩; rw [d1]) | (go_at_call 76; refine (sumsFault_any _ _ p _ (hp.alloc _) hl).mono ?_; rintro r u ⟨rfl, rfl⟩; rw [hsu]) | fail)
        refine (climbByPath_any l a s x c p _ (hT.alloc _) h1 h3.1 h3.2 h2.2 (hp.alloc _) ha hc hm).mono ?_
        rintro r u1 ⟨rfl, hb1⟩
        obtain ⟨hc1, hf1⟩ := bcell hb1
        have hz1 := hb1.size
        simp at hz1
        go_wp2
        refine bodyPost_ret (v := .agg #[.int .i64 (cpC a s p), .int .i64 (cpV l a s p)]) (by simp [results, Tryd.results28, go_sem, hc1]) rfl ⟨rfl, ?_⟩
        repeat (first | exact Below.refl _ _ | (refine Below.alloc ?_ (by (try simp) <;> omega) _) | (refine Below.setCell ?_ (by (try simp) <;> omega) _) | (refine Below.trans ?_ (hb1.mono (by (try simp) <;> omega))))
  · have e := clC_bad (p := p) hin
    rw [clV_of (by rw [e]; decide), e]
    clear e
    by_cases h1 : 0 ≤ l ∧ l ≤ 65520
    · have d1 : decide (0 ≤ l ∧ l ≤ 65520) = true := by simpa using h1
      by_cases n1 : s < 1
      · clear hin
        go_enter Tryd.func28, Tryd.ntmps28
        go_wp2_with (first | (go_at_call 75; refine (isSumF_any l _).mono ?_; rintro r u ⟨rfl, rfl⟩; rw [d1]))
        refine bodyPost_ret (v := .agg #[.int .i64 3, .int .i64 0]) (by simp [results, Tryd.results28, go_sem]) rfl ⟨rfl, ?_⟩
        repeat (first | exact Below.refl _ _ | (refine Below.alloc ?_ (by (try simp) <;> omega) _) | (refine Below.setCell ?_ (by (try simp) <;> omega) _))
      · by_cases n2 : 24 < s
        · clear hin
          go_enter Tryd.func28, Tryd.ntmps28
          go_wp2_with (first | (go_at_call 75; refine (isSumF_any l _).mono ?_; rintro r u ⟨rfl, rfl⟩; rw [d1]))
          refine bodyPost_ret (v := .agg #[.int .i64 3, .int .i64 0]) (by simp [results, Tryd.results28, go_sem]) rfl ⟨rfl, ?_⟩
          repeat (first | exact Below.refl _ _ | (refine Below.alloc ?_ (by (try simp) <;> omega) _) | (refine Below.setCell ?_ (by (try simp) <;> omega) _))
        · by_cases n3 : a < 0
          · clear hin
            go_enter Tryd.func28, Tryd.ntmps28
            go_wp2_with (first | (go_at_call 75; refine (isSumF_any l _).mono ?_; rintro r u ⟨rfl, rfl⟩; rw [d1]))
            refine bodyPost_ret (v := .agg #[.int .i64 3, .int .i64 0]) (by simp [results, Tryd.results28, go_sem]) rfl ⟨rfl, ?_⟩
            repeat (first | exact Below.refl _ _ | (refine Below.alloc ?_ (by (try simp) <;> omega) _) | (refine Below.setCell ?_ (by (try simp) <;> omega) _))
          · have n4 : s ≤ a := by omega
            clear hin
            go_enter Tryd.func28, Tryd.ntmps28
            go_wp2_with (first | (go_at_call 75; refine (isSumF_any l _).mono ?_; rintro r u ⟨rfl, rfl⟩; rw [d1]))
            refine bodyPost_ret (v := .agg #[.int .i64 3, .int .i64 0]) (by simp [results, Tryd.results28, go_sem]) rfl ⟨rfl, ?_⟩
            repeat (first | exact Below.refl _ _ | (refine Below.alloc ?_ (by (try simp) <;> omega) _) | (refine Below.setCell ?_ (by (try simp) <;> omega) _))
    · have d1 : decide (0 ≤ l ∧ l ≤ 65520) = false := by simpa using h1
      clear hin h1
      go_enter Tryd.func28, Tryd.ntmps28
      go_wp2_with (first | (go_at_call 75; refine (isSumF_any l _).mono ?_; rintro r u ⟨rfl, rfl⟩; rw [d1]))
      refine bodyPost_ret (v := .agg #[.int .i64 3, .int .i64 0]) (by simp [results, Tryd.results28, go_sem]) rfl ⟨rfl, ?_⟩
      repeat (first | exact Below.refl _ _ | (refine Below.alloc ?_ (by (try simp) <;> omega) _) | (refine Below.setCell ?_ (by (try simp) <;> omega) _))

end Go.Proofs.YtjiamihidnofmaaDoor
