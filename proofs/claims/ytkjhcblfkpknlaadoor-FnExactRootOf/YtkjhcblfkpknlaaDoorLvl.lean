/- A region that draws its order, in a round of a loop over a function: as it goes everywhere, where nothing in it is deferred. Contracts: the program's climbing of a path. Contracts: the program's iterator over the pairs of a level. Bytes appended to a row of one's own, at a step of a region that draws: whatever the source, nil or empty among them. What the rounds over the pairs of a level leave of memory. What the rounds over the pairs of a level come to; the marks that loops over an iterator leave; the one beside. -/
import Derived.Test.YtkjhcblfkpknlaaDoorFrame
import Derived.Deep.RegionHeld3
import Derived.RangeFuncNested
import Derived.RangeFuncBound
import Derived.RangeFuncCalls
import Derived.RangeFuncLeaves
import Derived.RangeFuncBox
import Derived.Shelf.Abstract
import Derived.Shelf.RegionOpen
import Derived.OwnWalkIn
import Derived.TacticsInMore
import Derived.LoopNIn
import Derived.LoopIn
import Derived.Maps.AppendAt
import Derived.Test.YtkjhcblfkpknlaaDoorGrowC
import Derived.Test.YtkjhcblfkpknlaaDoorISums
import Derived.Test.YtkjhcblfkpknlaaDoorGrowD
import Derived.Test.YtkjhcblfkpknlaaDoorPiece
import Derived.Deep.AppendLies
import Derived.Deep.DrawnRows
import Derived.Test.YtkjhcblfkpknlaaDoorFrB
namespace Go.Proofs.YtkjhcblfkpknlaaDoor
open Go.ChangeShapes Go.WideShapes Go.ChangeAt Go.RowKit
set_option linter.unusedVariables false
set_option linter.unusedSimpArgs false

theorem Oper.wpIn_of_wp {P : Program} {l n : Nat} {o : Oper} {a : Act} {w : World} {K : Act → World → Prop} {Q : Exit → Act → World → Prop} (hd : ∀ c, o.op ≠ .defer c) (h : o.wp P a w K Q) : o.wpIn (Fence.wide.inRound l) n P a w K Q := by
  unfold Oper.wp at h
  unfold Oper.wpIn
  refine ⟨fun _ _ => trivial, ?_⟩
  rw [Oper.semAt_plain _ _ _ hd]
  generalize (execOp a.eval o).run P w = r at *
  cases r with
  | ok x w' =>
    cases x <;> simp only [Oper.upon] at h <;> simp only [Oper.uponIn]
    all_goals first
      | exact h
      | exact ⟨fun h => (by cases h), callsIn_wide.2 h⟩
      | exact ⟨fun h => (by cases h), fun c cs _ => let ⟨v, w', r, s⟩ := h c cs; ⟨v, w', r, stepsIn_wide.2 s⟩⟩
  | halt x w' => cases x <;> simp only [Oper.upon] at h <;> simp only [Oper.uponIn] <;> exact h
theorem wpOpsIn_of_wpOps {P : Program} {l n : Nat} {ops : Array Oper} {Q : Exit → Act → World → Prop} (hd : ∀ (i : Nat) (o : Oper) c, ops[i]? = some o → o.op ≠ .defer c) (hx : ¬ LetsOut Q) :
    ∀ (is : List Nat) (a : Act) (w : World), wpOps P ops Q is a w → wpOpsIn (Fence.wide.inRound l) n P ops Q is a w
  | [], _, _, h => h
  | i :: is, a, w, h => by
    unfold wpOps at h
    unfold wpOpsIn
    cases ho : ops[i]? with
    | none => rw [ho] at h; exact wpOpsIn_of_wpOps hd hx is a w h
    | some o =>
      rw [ho] at h
      simp only at h ⊢
      split
      · rename_i hw
        rw [if_pos hw] at h
        rcases h with h | h
        · exact Oper.wpIn_of_wp (fun c => hd i o c ho) (Oper.wp_mono (fun a w h => wpOpsIn_of_wpOps hd hx is a w h) h)
        · exact absurd h.2 hx
      · rename_i hw
        rw [if_neg hw] at h
        exact ⟨fun _ _ => trivial, wpOpsIn_of_wpOps hd hx is _ w h⟩
/-- Nothing in a region is deferred. -/
def noDefer (ops : Array Oper) : Bool := ops.toList.all fun o => match o.op with | .defer _ => false | _ => true
theorem noDefer_of {ops : Array Oper} (h : noDefer ops = true) (i : Nat) (o : Oper) (c) (ho : ops[i]? = some o) : o.op ≠ .defer c := by
  intro e
  unfold noDefer at h
  rw [List.all_eq_true] at h
  have := h o (by rw [← Array.mem_def]; exact Array.mem_of_getElem? ho)
  rw [e] at this
  simp at this
/-- The beginning of a region that draws, in a round. -/
theorem wpIn_round_held {P : Program} {l n id : Nat} {ops : Array Oper} {Q : Exit → Act → World → Prop} {S : World → Prop} {a : Act} {w : World} (hm : P.follows .mixedOrders = true) (hd : noDefer ops = true) (hx : ¬ LetsOut Q) (hS : S w.drew)
    (h : S w.drew → wpAnyH P .any ops Q S ops.size (Array.replicate ops.size false) a w.drew) : (Code.region id ops true).wpIn (Fence.wide.inRound l) n P Q a w :=
  wpIn_region_draw fun t => by
    simp only [Region.schedule, hm, Bool.true_or, if_true]
    exact wpOpsIn_of_wpOps (noDefer_of hd) hx _ _ _ (wpAny_sound ops.size t _ a _ (wpAny_of_held _ _ _ _ (h hS)))

end Go.Proofs.YtkjhcblfkpknlaaDoor

namespace Go.Proofs.YtkjhcblfkpknlaaDoor
open Go.ChangeShapes Go.WideShapes Go.ChangeAt Go.RowKit
set_option linter.unusedVariables false
set_option linter.unusedSimpArgs false

theorem nodeV_nS {a b : Int} (h : (0 ≤ a ∧ a ≤ 65520) ∧ 0 ≤ b ∧ b ≤ 65520) : nodeV a b = nS a b := by unfold nodeV nS; rw [if_pos h]

theorem firstSide_any (a : Int) (w : World) (h : 0 ≤ a) : Calls Tryd.prog 110 #[.int .i64 a] w fun r w' => r = .returned (.bool (decide (a % 2 = 0))) ∧ w' = w := by
  go_enter Tryd.func110, Tryd.ntmps110
  go_wp2
  go_ret
  refine ⟨ret_bool ?_, rfl⟩
  rw [Bool.eq_iff_iff]
  simp

theorem aloneAt_any (a s : Int) (w : World) (h : 0 ≤ a) (hs : 1 ≤ s) (hs' : s ≤ 1000000) : Calls Tryd.prog 97 #[.int .i64 a, .int .i64 s] w fun r w' => r = .returned (.bool (alone a s)) ∧ w' = w := by
  by_cases he : a % 2 = 0
  · have hd : decide (a % 2 = 0) = true := by simpa using he
    go_enter Tryd.func97, Tryd.ntmps97
    go_wp2_with (go_at_call 110; refine (firstSide_any a _ h).mono ?_; rintro r u ⟨rfl, rfl⟩; rw [hd])
    go_ret
    refine ⟨ret_bool ?_, rfl⟩
    unfold alone
    rw [Bool.eq_iff_iff]
    simp
    omega
  · have hd : decide (a % 2 = 0) = false := by simpa using he
    have HE : Hid (¬ a % 2 = 0) := he
    clear he
    go_enter Tryd.func97, Tryd.ntmps97
    go_wp2_with (go_at_call 110; refine (firstSide_any a _ h).mono ?_; rintro r u ⟨rfl, rfl⟩; rw [hd])
    go_ret
    refine ⟨ret_bool ?_, rfl⟩
    unfold alone
    have := HE.out
    rw [Bool.eq_iff_iff]
    simp
    omega

/-- The first of a pair. -/
def prA (a own other : Int) : Int := if a % 2 = 0 then own else other
/-- The second of a pair. -/
def prB (a own other : Int) : Int := if a % 2 = 0 then other else own
theorem joinAt_pr (f : Int → Int → Int) (a own other : Int) : joinAt f a own other = f (prA a own other) (prB a own other) := by
  unfold joinAt prA prB; split <;> rfl

theorem pairAt_any (a own other : Int) (w : World) (h : 0 ≤ a) :
    Calls Tryd.prog 98 #[.int .i64 a, .int .i64 own, .int .i64 other] w fun r w' => r = .returned (.agg #[.int .i64 (prA a own other), .int .i64 (prB a own other), .bool false]) ∧ Below w.heap.size w w' := by
  unfold prA prB
  by_cases he : a % 2 = 0
  · have hd : decide (a % 2 = 0) = true := by simpa using he
    rw [if_pos he, if_pos he]
    clear he
    go_enter Tryd.func98, Tryd.ntmps98
    go_wp2_with (go_at_call 110; refine (firstSide_any a _ h).mono ?_; rintro r u ⟨rfl, rfl⟩; rw [hd])
    exact bodyPost_ret (v := .agg #[.int .i64 own, .int .i64 other, .bool false]) (by simp [results, Tryd.results98, go_sem]) rfl ⟨rfl, by repeat (first | exact Below.refl _ _ | refine Below.alloc ?_ (by simp) _ | refine Below.setCell ?_ (by simp) _)⟩
  · have hd : decide (a % 2 = 0) = false := by simpa using he
    rw [if_neg he, if_neg he]
    clear he
    go_enter Tryd.func98, Tryd.ntmps98
    go_wp2_with (go_at_call 110; refine (firstSide_any a _ h).mono ?_; rintro r u ⟨rfl, rfl⟩; rw [hd])
    exact bodyPost_ret (v := .agg #[.int .i64 other, .int .i64 own, .bool false]) (by simp [results, Tryd.results98, go_sem]) rfl ⟨rfl, by repeat (first | exact Below.refl _ _ | refine Below.alloc ?_ (by simp) _ | refine Below.setCell ?_ (by simp) _)⟩

theorem fldR1 (x y : Int) (w : World) : (Instr.field 33 (.agg #[.int .i64 x, .int .i64 y]) 1).run Tryd.prog w = .ok (.int .i64 y) w := by kernel_rfl
/-- What a pair comes to. -/
def jn (a b : Int) (al : Bool) : Int := if al = true then a else nS a b
theorem joined_any (a b : Int) (al : Bool) (w : World) (hT : Tab w) (ha : 0 ≤ a ∧ a ≤ 65520) (hb : al = false → 0 ≤ b ∧ b ≤ 65520) :
    Calls Tryd.prog 96 #[.agg #[.int .i64 a, .int .i64 b, .bool al]] w fun r w' => r = .returned (.int .i64 (jn a b al)) ∧ Below w.heap.size w w' := by
  cases al
  · have hbb := hb rfl
    have HN : Hid (nodeV a b = jn a b false) := nodeV_nS ⟨ha, hbb⟩
    clear hb
    have F1 := fldR1
    go_enter Tryd.func96, Tryd.ntmps96
    go_wp2_with fail
    refine (implNodeSum_any a b _ (hT.alloc _)).mono ?_
    rintro r u1 ⟨rfl, hb1⟩
    rw [HN.out]
    go_wp2
    go_ret
    exact ⟨rfl, ((Below.refl _ _).alloc (Nat.le_refl _) _).trans (hb1.mono (by simp))⟩
  · go_enter Tryd.func96, Tryd.ntmps96
    go_wp2
    go_ret
    exact ⟨rfl, (Below.refl _ _).alloc (Nat.le_refl _) _⟩

/-- The code of a climb whose numbers are in their bounds. -/
def cpC (a s : Int) (q : List Int) : Int := if q.length = stN a s then 0 else 8
/-- What it comes to. -/
def cpV (r a s : Int) (q : List Int) : Int := if q.length = stN a s then clM nS r a s q else 0
theorem cp_alone {r a s : Int} {q : List Int} (h2 : 2 ≤ s) (h3 : s ≤ 32) (ha : 0 ≤ a) (hs : a < s) (hal : alone a s = true) : cpC (a / 2) ((s + 1) / 2) q = cpC a s q ∧ cpV r (a / 2) ((s + 1) / 2) q = cpV r a s q := by
  have e := stN_up _ a s (Nat.le_refl _) h2 h3 ha hs
  rw [hal, if_pos rfl, Nat.add_zero] at e
  unfold cpC cpV
  rw [e, clM_alone nS _ r a s q (Nat.le_refl _) h2 h3 ha hs hal]
  exact ⟨rfl, rfl⟩
theorem cp_pair {r a s p0 : Int} {q : List Int} (h2 : 2 ≤ s) (h3 : s ≤ 32) (ha : 0 ≤ a) (hs : a < s) (hal : alone a s = false) : cpC (a / 2) ((s + 1) / 2) q = cpC a s (p0 :: q) ∧ cpV (jn (prA a r p0) (prB a r p0) false) (a / 2) ((s + 1) / 2) q = cpV r a s (p0 :: q) := by
  have e := stN_up _ a s (Nat.le_refl _) h2 h3 ha hs
  rw [hal] at e
  simp at e
  have ej : jn (prA a r p0) (prB a r p0) false = joinAt nS a r p0 := by rw [joinAt_pr]; rfl
  unfold cpC cpV
  rw [e, ej]
  by_cases hq : q.length = stN (a / 2) ((s + 1) / 2)
  · have hq' : (p0 :: q).length = stN (a / 2) ((s + 1) / 2) + 1 := by simp [hq]
    rw [if_pos hq, if_pos hq, if_pos hq', if_pos hq', clM_pair nS _ r a s p0 q (Nat.le_refl _) h2 h3 ha hs hal hq]
    exact ⟨rfl, rfl⟩
  · have hq' : ¬ (p0 :: q).length = stN (a / 2) ((s + 1) / 2) + 1 := by simp [hq]
    rw [if_neg hq, if_neg hq, if_neg hq', if_neg hq']
    exact ⟨rfl, rfl⟩
theorem cp_nil {r a s : Int} (h2 : 2 ≤ s) (h3 : s ≤ 32) (ha : 0 ≤ a) (hs : a < s) (hal : alone a s = false) : cpC a s [] = 8 ∧ cpV r a s [] = 0 := by
  have e := stN_up _ a s (Nat.le_refl _) h2 h3 ha hs
  rw [hal] at e
  simp at e
  unfold cpC cpV
  rw [e, if_neg (by simp), if_neg (by simp)]
  exact ⟨rfl, rfl⟩
theorem cp_one {r a s : Int} {q : List Int} (h : s ≤ 1) : cpC a s q = (if q.length = 0 then 0 else 8) ∧ cpV r a s q = (if q.length = 0 then r else 0) := by
  unfold cpC cpV
  rw [stN_le a s h, clM_le nS r a s q h]
  exact ⟨rfl, rfl⟩
theorem jn_bd {a b : Int} {al : Bool} (ha : 0 ≤ a ∧ a ≤ 65520) : 0 ≤ jn a b al ∧ jn a b al ≤ 65520 := by
  unfold jn; split
  · exact ha
  · exact nS_bd _ _
theorem allS_cons {p : Int} {q : List Int} (h : allS (p :: q) = true) : (0 ≤ p ∧ p ≤ 65520) ∧ allS q = true := by
  unfold allS at *; simp at h; exact ⟨h.1, by simpa using h.2⟩
theorem Has.tail {w : World} {b o : Nat} {p : Int} {q : List Int} (h : Has w .i64 (some ⟨b, o, none⟩) (p :: q).length (p :: q)) : Has w .i64 (some ⟨b, o + 1, none⟩) q.length q := by
  refine ⟨rfl, fun x hx => h.2.1 x (List.mem_cons_of_mem _ hx), ?_⟩
  rcases h.2.2 with c | ⟨b', off', e, hlt, hc⟩
  · simp at c
  · simp at e
    obtain ⟨rfl, rfl⟩ := e
    refine .inr ⟨b, o + 1, rfl, hlt, fun j hj => ?_⟩
    have := hc (1 + j) (by simp; omega)
    rw [show o + 1 + j = o + (1 + j) by omega, this]
    simp [List.getD, show 1 + j = j + 1 by omega]

set_option maxHeartbeats 4000000 in
theorem climbByPath_any (l a0 s0 : Int) (x : Option Addr) (c : Nat) (p : List Int) (w : World) (hT : Tab w) (hl : 0 ≤ l ∧ l ≤ 65520) (h1 : 0 ≤ a0) (h2 : a0 < s0) (h3 : s0 ≤ 24) (hp : Has w .i64 x p.length p) (hall : allS p = true) (hc : p.length ≤ c) (hm : c ≤ maxLen) :
    Calls Tryd.prog 65 #[.int .i64 l, .int .i64 a0, .int .i64 s0, .slice x p.length c] w fun r w' => r = .returned (.agg #[.int .i64 (cpC a0 s0 p), .int .i64 (cpV l a0 s0 p)]) ∧ Below w.heap.size w w' := by
  obtain ⟨C0, hC0⟩ : ∃ C0, C0 = cpC a0 s0 p := ⟨_, rfl⟩
  obtain ⟨V0, hV0⟩ : ∃ V0, V0 = cpV l a0 s0 p := ⟨_, rfl⟩
  rw [← hC0, ← hV0]
  have E0 : Hid (cpC a0 s0 p = C0 ∧ cpV l a0 s0 p = V0) := ⟨hC0.symm, hV0.symm⟩
  clear hC0 hV0
  have HP : Hid (Has (w.alloc (.cells #[.int .i64 0, .int .i64 0] 33)) .i64 x p.length p) := hp.alloc _
  have HT : Hid (Tab (w.alloc (.cells #[.int .i64 0, .int .i64 0] 33))) := hT.alloc _
  clear hp
  go_enter Tryd.func65, Tryd.ntmps65
  go_wp2
  go_loopw [1, 2, 9, 10] (fun x1 x2 x9 x10 wr => ∃ (a s r : Int) (q : List Int) (ad : Option Addr) (c' : Nat), x1 = .int .i64 a ∧ x2 = .int .i64 s ∧ x9 = .int .i64 r ∧ x10 = .slice ad q.length c' ∧ 0 ≤ a ∧ a < s ∧ s ≤ 24 ∧ 0 ≤ r ∧ r ≤ 65520 ∧ allS q = true ∧ q.length ≤ c' ∧ c' ≤ maxLen ∧ (cpC a s q = C0 ∧ cpV r a s q = V0) ∧ Has wr .i64 ad q.length q ∧ Below (w.alloc (.cells #[.int .i64 0, .int .i64 0] 33)).heap.size (w.alloc (.cells #[.int .i64 0, .int .i64 0] 33)) wr) (fun _ x2 _ _ _ => (intOf x2).toNat)
  case atStart => exact ⟨a0, s0, l, p, x, c, rfl, rfl, rfl, rfl, h1, h2, h3, hl.1, hl.2, hall, hc, hm, E0.out, HP.out, Below.refl _ _⟩
  case round =>
    clear HP E0 hall hc hm h1 h2 h3 hl
    obtain ⟨a, s, r, q, ad, c', rfl, rfl, rfl, rfl, g1, g2, g3, g4, g5, hall, hc, hm, he, hq, hb⟩ := hrel
    have HE : Hid (cpC a s q = C0 ∧ cpV r a s q = V0) := he
    clear he
    unfold maxLen at hm
    have Tr : Hid (Tab wr) := HT.out.below hb (Nat.le_refl _)
    obtain ⟨hc1, hf1⟩ := bcell hb
    have hz := hb.size
    simp at hz
    by_cases hs : 1 < s
    · cases hal : alone a s
      · cases q with
        | nil =>
          have hE := cp_nil (r := r) (a := a) (s := s) (by omega) (by omega) g1 g2 hal
          have EC : Hid (C0 = 8) := by show _ = _; rw [← HE.out.1, hE.1]
          have EV : Hid (V0 = 0) := by show _ = _; rw [← HE.out.2, hE.2]
          clear HE hE
          go_wp2_with (go_at_call 97; refine (aloneAt_any a s _ g1 (by omega) (by omega)).mono ?_; rintro r u ⟨rfl, rfl⟩; rw [hal])
          refine bodyPost_ret (v := .agg #[.int .i64 8, .int .i64 0]) (by simp [results, Tryd.results65, go_sem, hc1]) rfl ⟨by rw [EC.out, EV.out], ?_⟩
          repeat (first | exact Below.refl _ _ | (refine Below.setCell ?_ (by (try simp) <;> omega) _) | (refine Below.trans ?_ (hb.mono (by (try simp) <;> omega))) | (refine Below.alloc ?_ (by (try simp) <;> omega) _))
        | cons p0 q =>
          obtain ⟨b1, o1, hx, hb1, hcell⟩ : ∃ b off, ad = some ⟨b, off, none⟩ ∧ b < wr.heap.size ∧ ∀ i, i < (p0 :: q).length → wr.cell? ⟨b, off + i, none⟩ = some (.int .i64 ((p0 :: q).getD i 0)) := by
            rcases hq.2.2 with c | h
            · simp at c
            · exact h
          subst hx
          have e1 : wr.cell? ⟨b1, o1, none⟩ = some (.int .i64 p0) := by have := hcell 0 (by simp); simpa using this
          simp only [List.length_cons] at hc
          have hq' : Has wr .i64 (if c' = 1 then some ⟨b1, o1, none⟩ else some ⟨b1, o1 + 1, none⟩) q.length q := by
            by_cases h1 : c' = 1
            · exact ⟨rfl, fun x hx => hq.2.1 x (List.mem_cons_of_mem _ hx), .inl (by omega)⟩
            · rw [if_neg h1]; exact hq.tail
          have HH : Hid (_) := cp_pair (r := r) (a := a) (s := s) (p0 := p0) (q := q) (by omega) (by omega) g1 g2 hal
          obtain ⟨s1, s2⟩ := allS_cons hall
          clear hcell hq
          have hlen : (p0 :: q).length = q.length + 1 := rfl
          go_wp2_with (go_at_call 97; refine (aloneAt_any a s _ g1 (by omega) (by omega)).mono ?_; rintro r u ⟨rfl, rfl⟩; rw [hal])
          refine (pairAt_any a r p0 _ g1).mono ?_
          rintro _ u1 ⟨rfl, hb1'⟩
          have hz1 := hb1'.size
          go_wp2_with fail
          refine (joined_any (prA a r p0) (prB a r p0) false _ (Tr.out.below hb1' (Nat.le_refl _)) (by unfold prA; split <;> omega) (fun _ => by unfold prB; split <;> omega)).mono ?_
          rintro _ u2 ⟨rfl, hb2⟩
          have hB := hb1'.trans (hb2.mono hz1)
          have hjb := jn_bd (a := prA a r p0) (b := prB a r p0) (al := false) (by unfold prA; split <;> omega)
          generalize jn (prA a r p0) (prB a r p0) false = jv at HH hjb
          go_wp2
          go_roundw
          case rel => exact ⟨a / 2, (s + 1) / 2, jv, q, _, c' - 1, rfl, rfl, rfl, rfl, by omega, by omega, by omega, hjb.1, hjb.2, s2, by omega, by unfold maxLen; omega, ⟨HH.out.1.trans HE.out.1, HH.out.2.trans HE.out.2⟩, hq'.below hB (Nat.le_refl _), hb.trans (hB.mono hb.size)⟩
          case measure => simp [intOf]; omega
      · have HH : Hid (_) := cp_alone (r := r) (a := a) (s := s) (q := q) (by omega) (by omega) g1 g2 hal
        go_wp2_with (go_at_call 97; refine (aloneAt_any a s _ g1 (by omega) (by omega)).mono ?_; rintro r u ⟨rfl, rfl⟩; rw [hal])
        go_roundw
        case rel => exact ⟨a / 2, (s + 1) / 2, r, q, ad, c', rfl, rfl, rfl, rfl, by omega, by have : a % 2 = 0 ∧ a = s - 1 := (by simpa [alone] using hal); omega, by omega, g4, g5, hall, hc, by unfold maxLen; omega, ⟨HH.out.1.trans HE.out.1, HH.out.2.trans HE.out.2⟩, hq, hb⟩
        case measure => simp [intOf]; omega
    · have hE := cp_one (r := r) (a := a) (s := s) (q := q) (by omega)
      by_cases h0 : q.length = 0
      · have EC : Hid (C0 = 0) := by show _ = _; rw [← HE.out.1, hE.1, if_pos h0]
        have EV : Hid (V0 = r) := by show _ = _; rw [← HE.out.2, hE.2, if_pos h0]
        have h0' : ¬ (0 : Int) < (q.length : Int) := by omega
        clear HE hE h0
        go_wp2
        refine bodyPost_ret (v := .agg #[.int .i64 0, .int .i64 r]) (by simp [results, Tryd.results65, go_sem, hc1]) rfl ⟨by rw [EC.out, EV.out], ?_⟩
        repeat (first | exact Below.refl _ _ | (refine Below.setCell ?_ (by (try simp) <;> omega) _) | (refine Below.trans ?_ (hb.mono (by (try simp) <;> omega))) | (refine Below.alloc ?_ (by (try simp) <;> omega) _))
      · have EC : Hid (C0 = 8) := by show _ = _; rw [← HE.out.1, hE.1, if_neg h0]
        have EV : Hid (V0 = 0) := by show _ = _; rw [← HE.out.2, hE.2, if_neg h0]
        have h0' : (0 : Int) < (q.length : Int) := by omega
        clear HE hE h0
        go_wp2
        refine bodyPost_ret (v := .agg #[.int .i64 8, .int .i64 0]) (by simp [results, Tryd.results65, go_sem, hc1]) rfl ⟨by rw [EC.out, EV.out], ?_⟩
        repeat (first | exact Below.refl _ _ | (refine Below.setCell ?_ (by (try simp) <;> omega) _) | (refine Below.trans ?_ (hb.mono (by (try simp) <;> omega))) | (refine Below.alloc ?_ (by (try simp) <;> omega) _))

set_option maxHeartbeats 2000000 in
theorem implClimb_any (l a s : Int) (x : Option Addr) (c : Nat) (p : List Int) (w : World) (hT : Tab w) (hp : Has w .i64 x p.length p) (hl : p.length ≤ 1048576) (hc : p.length ≤ c) (hm : c ≤ maxLen) :
    Calls Tryd.prog 17 #[.int .i64 l, .int .i64 a, .int .i64 s, .slice x p.length c] w fun r w' => r = .returned (.agg #[.int .i64 (clC l a s p), .int .i64 (clV l a s p)]) ∧ Below w.heap.size w w' := by
  by_cases hin : (0 ≤ l ∧ l ≤ 65520) ∧ (1 ≤ s ∧ s ≤ 24) ∧ 0 ≤ a ∧ a < s
  · obtain ⟨h1, h2, h3⟩ := hin
    have d1 : decide (0 ≤ l ∧ l ≤ 65520) = true := by simpa using h1
    have n1 : ¬ s < 1 := by omega
    have n2 : ¬ 24 < s := by omega
    have n3 : ¬ a < 0 := by omega
    have n4 : ¬ s ≤ a := by omega
    by_cases h6 : 6 < p.length
    · have h6' : (6 : Int) < (p.length : Int) := by omega
      have e := clC_many (p := p) ⟨h1, h2, h3⟩ h6
      rw [clV_of (by rw [e]; decide), e]
      clear e
      go_enter Tryd.func17, Tryd.ntmps17
      go_wp2_with (first | (go_at_call 63; refine (isSumF_any l _).mono ?_; rintro r u ⟨rfl, rfl⟩; rw [d1]))
      refine bodyPost_ret (v := .agg #[.int .i64 2, .int .i64 0]) (by simp [results, Tryd.results17, go_sem]) rfl ⟨rfl, ?_⟩
      repeat (first | exact Below.refl _ _ | (refine Below.alloc ?_ (by (try simp) <;> omega) _) | (refine Below.setCell ?_ (by (try simp) <;> omega) _))
    · have h6' : ¬ (6 : Int) < (p.length : Int) := by omega
      cases ha : allS p
      · have e := clC_sum (p := p) ⟨h1, h2, h3⟩ h6 ha
        rw [clV_of (by rw [e]; decide), e]
        clear e
        have hsu : suF p = 3 := by unfold suF; rw [ha]; rfl
        go_enter Tryd.func17, Tryd.ntmps17
        go_wp2_with (first | (go_at_call 63; refine (isSumF_any l _).mono ?_; rintro r u ⟨rfl, rfl⟩; rw [d1]) | (go_at_call 64; refine (sumsFault_any _ _ p _ (hp.alloc _) hl).mono ?_; rintro r u ⟨rfl, rfl⟩; rw [hsu]))
        refine bodyPost_ret (v := .agg #[.int .i64 3, .int .i64 0]) (by simp [results, Tryd.results17, go_sem]) rfl ⟨rfl, ?_⟩
        repeat (first | exact Below.refl _ _ | (refine Below.alloc ?_ (by (try simp) <;> omega) _) | (refine Below.setCell ?_ (by (try simp) <;> omega) _))
      · have e := clC_len (p := p) ⟨h1, h2, h3⟩ h6 ha
        have e1 : clC l a s p = cpC a s p := e
        have e2 : clV l a s p = cpV l a s p := by
          unfold clV
          rw [e]
          unfold cpV
          by_cases hq : p.length = stN a s
          · simp [hq]
          · simp [hq]
        rw [e1, e2]
        clear e e1 e2
        have hsu : suF p = 0 := by unfold suF; rw [ha]; rfl
        go_enter Tryd.func17, Tryd.ntmps17
        go_wp2_with (first | (go_at_call 63; refine (isSumF_any l _).mono ?_; rintro r u ⟨rfl, rfl⟩; rw [d1]) | (go_at_call 64; refine (sumsFault_any _ _ p _ (hp.alloc _) hl).mono ?_; rintro r u ⟨rfl, rfl⟩; rw [hsu]) | fail)
        refine (climbByPath_any l a s x c p _ (hT.alloc _) h1 h3.1 h3.2 h2.2 (hp.alloc _) ha hc hm).mono ?_
        rintro r u1 ⟨rfl, hb1⟩
        obtain ⟨hc1, hf1⟩ := bcell hb1
        have hz1 := hb1.size
        simp at hz1
        go_wp2
        refine bodyPost_ret (v := .agg #[.int .i64 (cpC a s p), .int .i64 (cpV l a s p)]) (by simp [results, Tryd.results17, go_sem, hc1]) rfl ⟨rfl, ?_⟩
        repeat (first | exact Below.refl _ _ | (refine Below.alloc ?_ (by (try simp) <;> omega) _) | (refine Below.setCell ?_ (by (try simp) <;> omega) _) | (refine Below.trans ?_ (hb1.mono (by (try simp) <;> omega))))
  · have e := clC_bad (p := p) hin
    rw [clV_of (by rw [e]; decide), e]
    clear e
    by_cases h1 : 0 ≤ l ∧ l ≤ 65520
    · have d1 : decide (0 ≤ l ∧ l ≤ 65520) = true := by simpa using h1
      by_cases n1 : s < 1
      · clear hin
        go_enter Tryd.func17, Tryd.ntmps17
        go_wp2_with (first | (go_at_call 63; refine (isSumF_any l _).mono ?_; rintro r u ⟨rfl, rfl⟩; rw [d1]))
        refine bodyPost_ret (v := .agg #[.int .i64 3, .int .i64 0]) (by simp [results, Tryd.results17, go_sem]) rfl ⟨rfl, ?_⟩
        repeat (first | exact Below.refl _ _ | (refine Below.alloc ?_ (by (try simp) <;> omega) _) | (refine Below.setCell ?_ (by (try simp) <;> omega) _))
      · by_cases n2 : 24 < s
        · clear hin
          go_enter Tryd.func17, Tryd.ntmps17
          go_wp2_with (first | (go_at_call 63; refine (isSumF_any l _).mono ?_; rintro r u ⟨rfl, rfl⟩; rw [d1]))
          refine bodyPost_ret (v := .agg #[.int .i64 3, .int .i64 0]) (by simp [results, Tryd.results17, go_sem]) rfl ⟨rfl, ?_⟩
          repeat (first | exact Below.refl _ _ | (refine Below.alloc ?_ (by (try simp) <;> omega) _) | (refine Below.setCell ?_ (by (try simp) <;> omega) _))
        · by_cases n3 : a < 0
          · clear hin
            go_enter Tryd.func17, Tryd.ntmps17
            go_wp2_with (first | (go_at_call 63; refine (isSumF_any l _).mono ?_; rintro r u ⟨rfl, rfl⟩; rw [d1]))
            refine bodyPost_ret (v := .agg #[.int .i64 3, .int .i64 0]) (by simp [results, Tryd.results17, go_sem]) rfl ⟨rfl, ?_⟩
            repeat (first | exact Below.refl _ _ | (refine Below.alloc ?_ (by (try simp) <;> omega) _) | (refine Below.setCell ?_ (by (try simp) <;> omega) _))
          · have n4 : s ≤ a := by omega
            clear hin
            go_enter Tryd.func17, Tryd.ntmps17
            go_wp2_with (first | (go_at_call 63; refine (isSumF_any l _).mono ?_; rintro r u ⟨rfl, rfl⟩; rw [d1]))
            refine bodyPost_ret (v := .agg #[.int .i64 3, .int .i64 0]) (by simp [results, Tryd.results17, go_sem]) rfl ⟨rfl, ?_⟩
            repeat (first | exact Below.refl _ _ | (refine Below.alloc ?_ (by (try simp) <;> omega) _) | (refine Below.setCell ?_ (by (try simp) <;> omega) _))
    · have d1 : decide (0 ≤ l ∧ l ≤ 65520) = false := by simpa using h1
      clear hin h1
      go_enter Tryd.func17, Tryd.ntmps17
      go_wp2_with (first | (go_at_call 63; refine (isSumF_any l _).mono ?_; rintro r u ⟨rfl, rfl⟩; rw [d1]))
      refine bodyPost_ret (v := .agg #[.int .i64 3, .int .i64 0]) (by simp [results, Tryd.results17, go_sem]) rfl ⟨rfl, ?_⟩
      repeat (first | exact Below.refl _ _ | (refine Below.alloc ?_ (by (try simp) <;> omega) _) | (refine Below.setCell ?_ (by (try simp) <;> omega) _))

end Go.Proofs.YtkjhcblfkpknlaaDoor

namespace Go.Proofs.YtkjhcblfkpknlaaDoor
open Go.ChangeShapes Go.WideShapes Go.ChangeAt Go.RowKit
set_option linter.unusedVariables false
set_option linter.unusedSimpArgs false

attribute [local go_sem] Oper.semAt_some

/-- The first of a pair, the second, whether it is alone. -/
def pA (zs : List Int) (k : Nat) : Int := zs[2 * k]?.getD 0
def pB (zs : List Int) (k : Nat) : Int := if 2 * k + 1 < zs.length then zs[2 * k + 1]?.getD 0 else 0
def pL (zs : List Int) (k : Nat) : Bool := decide (2 * k + 1 = zs.length)
/-- A place on the level above. -/
abbrev Pl (zs : List Int) := { k : Nat // 2 * k < zs.length }
def encP (zs : List Int) (x : Pl zs) : Array Value := #[.int .i64 (x.1 : Int), .agg #[.int .i64 (pA zs x.1), .int .i64 (pB zs x.1), .bool (pL zs x.1)]]
/-- The blocks of a set are as they were. -/
def KpB (M : Nat → Prop) (W W' : World) : Prop := ∀ k, M k → W'.heap[k]? = W.heap[k]?
/-- The first places, in order. -/
def upP (zs : List Int) (k : Nat) (h : 2 * k < zs.length + 2) : List (Pl zs) := (List.range k).pmap (fun i hi => ⟨i, hi⟩) (fun i hi => by have := List.mem_range.1 hi; omega)
theorem upP_len (zs : List Int) (k : Nat) (h) : (upP zs k h).length = k := by simp [upP]
theorem upP_succ (zs : List Int) (k : Nat) (h : 2 * k < zs.length) : upP zs (k + 1) (by omega) = upP zs k (by omega) ++ [⟨k, h⟩] := by
  unfold upP
  simp [List.range_succ, List.pmap_append]

set_option maxHeartbeats 1000000 in
theorem pairsOf_any (a : Option Addr) (n c : Nat) (w : World) :
    Calls Tryd.prog 94 #[.slice a n c] w fun r w' => r = .returned (.func (.func 109) #[] #[.pointer (some ⟨w.heap.size, 0, none⟩)]) ∧ w' = w.alloc (.cells #[.slice a n c] 24) := by
  go_enter Tryd.func94, Tryd.ntmps94
  go_wp2
  go_ret
  exact ⟨rfl, rfl⟩

set_option maxRecDepth 100000 in
set_option maxHeartbeats 4000000 in
theorem pairs1_in (n l B bl off lc : Nat) (zs : List Int) (hl : zs.length ≤ 100000) (h1 : 1 ≤ zs.length) (J Jx : List (Pl zs) → World → Prop) (W : World) (hJ : AbidesFrom W.heap.size J)
    (hY : ∀ pre x W1, J pre W1 → pre.length < (zs.length + 1) / 2 → YieldAt Fence.wide (n - 1) Tryd.prog l (encP zs x) W1 fun e W' =>
      (e = .returned (.bool true) ∧ J (pre ++ [x]) W' ∧ KpB (fun k => k = B ∨ k = bl) W1 W') ∨ (e = .returned (.bool false) ∧ Jx (pre ++ [x]) W'))
    (hB : W.cell? ⟨B, 0, none⟩ = some (.slice (some ⟨bl, off, none⟩) zs.length lc)) (hc : ∀ j, j < zs.length → W.cell? ⟨bl, off + j, none⟩ = some (.int .i64 (zs[j]?.getD 0))) (h0 : J [] W) :
    CallsIn Fence.wide n Tryd.prog 109 #[.func (.yield l) #[] #[], .pointer (some ⟨B, 0, none⟩)] W fun e W' => (∃ v, e = .returned v) ∧
      ((∃ ys, ys = upP zs ((zs.length + 1) / 2) (by omega) ∧ J ys W') ∨ (∃ pre, True ∧ Jx pre W')) := by
  refine callsIn_of_wp Tryd.func109 rfl trivial ?_ rfl
  simp only [Tryd.ntmps109, List.size_toArray, List.length_cons, List.length_nil, Nat.reduceAdd, Nat.reduceSub, Array.replicate_succ, Array.replicate_zero, List.push_toArray, List.append_toArray, List.nil_append, List.cons_append]
  gi_wp2
  gi_loopw [4] (fun i wr => ∃ (k : Nat) (h : 2 * k < zs.length + 2), i = .int .i64 (2 * (k : Int)) ∧ J (upP zs k h) wr ∧ KpB (fun k => k = B ∨ k = bl) W wr) (fun i _ => zs.length + 2 - (intOf i).toNat)
  case atStart => exact ⟨0, by omega, rfl, h0, fun _ _ => rfl⟩
  case round =>
    obtain ⟨k, hk, rfl, hJs, hkp⟩ := hrel
    have gB : wr.cell? ⟨B, 0, none⟩ = some (.slice (some ⟨bl, off, none⟩) zs.length lc) := (World.cell?_of_block (w := W) (w' := wr) (a := ⟨B, 0, none⟩) (hkp B (.inl rfl))).trans hB
    have gc : ∀ j, j < zs.length → wr.cell? ⟨bl, off + j, none⟩ = some (.int .i64 (zs[j]?.getD 0)) := fun j hj => (World.cell?_of_block (w := W) (w' := wr) (a := ⟨bl, off + j, none⟩) (hkp bl (.inr rfl))).trans (hc j hj)
    by_cases hlt : 2 * k < zs.length
    · have hlt' : 2 * (k : Int) < (zs.length : Int) := by omega
      have g0 := gc (2 * k) hlt
      have gA : wr.cell? ⟨bl, off + 2 * k, none⟩ = some (.int .i64 (pA zs k)) := g0
      have hl' : (zs.length : Int) ≤ 100000 := by omega
      have hi : (2 * (k : Int)).toNat = 2 * k := by omega
      have hk0 : 0 ≤ 2 * (k : Int) := by omega
      have hBl : B < wr.heap.size := World.block_lt_of_cell? wr _ gB
      have hbl : bl < wr.heap.size := World.block_lt_of_cell? wr _ gA
      by_cases hal : 2 * k + 1 = zs.length
      · have hal' : alone (2 * (k : Int)) (zs.length : Int) = true := by simp [alone]; omega
        gi_wp2
        refine wpIn_wide.2 ?_
        go_region_held3 (fun u => u.cell? ⟨B, 0, none⟩ = some (.slice (some ⟨bl, off, none⟩) zs.length lc) ∧ u.cell? ⟨bl, off + 2 * k, none⟩ = some (.int .i64 (pA zs k))) (simp_all [go_sem]) ((go_at_call 97; refine (aloneAt_any (2 * (k : Int)) zs.length _ (by omega) (by omega) (by omega)).mono ?_; rintro r u ⟨rfl, rfl⟩; rw [hal']))
        all_goals
          have HJ := hJ (upP zs k hk) wr (wr.alloc (.cells #[.int .i64 (pA zs k), .int .i64 0, .bool true] 102)).drew none hJs ⟨rfl, rfl, rfl, (by simp [World.drew]), fun b hb _ => Below.heap_alloc wr _ b hb⟩ (fun r e => by cases e)
          obtain ⟨fn, tmps, assign, body, hy, hR⟩ := hY (upP zs k hk) ⟨k, hlt⟩ _ HJ (by rw [upP_len]; omega)
          have he : encP zs ⟨k, hlt⟩ = #[.int .i64 (k : Int), .agg #[.int .i64 (pA zs k), .int .i64 0, .bool true]] := by simp [encP, pB, pL, hal]
          rw [he] at hy
          clear he HJ hY
          gi_wp2
          refine ⟨fun h => (by cases h), hR.mono ?_⟩
          rintro e W3 (⟨rfl, hJ3, hk3⟩ | ⟨rfl, hJx3⟩)
          · gi_wp2
            go_roundw
            case rel => exact ⟨k + 1, by omega, by go_num, by rw [upP_succ zs k hlt]; exact hJ3, fun b hb => ((hk3 b hb).trans (Below.heap_alloc wr _ b (by rcases hb with rfl | rfl <;> assumption))).trans (hkp b hb)⟩
            case measure => simp [intOf]; omega
          · gi_wp2
            refine bodyPost_ret (results_none rfl _ _ _) rfl ?_
            exact ⟨⟨_, rfl⟩, .inr ⟨_, trivial, hJx3⟩⟩
      · have hal' : alone (2 * (k : Int)) (zs.length : Int) = false := by simp [alone]; omega
        have gB1 : wr.cell? ⟨bl, off + (2 * k + 1), none⟩ = some (.int .i64 (pB zs k)) := by rw [gc (2 * k + 1) (by omega)]; simp [pB, show 2 * k + 1 < zs.length by omega]
        have hi1 : (2 * (k : Int) + 1).toNat = 2 * k + 1 := by omega
        have hlt1 : 2 * (k : Int) + 1 < zs.length := by omega
        gi_wp2
        refine wpIn_wide.2 ?_
        go_region_held3 (fun u => u.cell? ⟨B, 0, none⟩ = some (.slice (some ⟨bl, off, none⟩) zs.length lc) ∧ u.cell? ⟨bl, off + 2 * k, none⟩ = some (.int .i64 (pA zs k))) (simp_all [go_sem]) ((go_at_call 97; refine (aloneAt_any (2 * (k : Int)) zs.length _ (by omega) (by omega) (by omega)).mono ?_; rintro r u ⟨rfl, rfl⟩; rw [hal']))
        all_goals
          have HJ := hJ (upP zs k hk) wr (wr.alloc (.cells #[.int .i64 (pA zs k), .int .i64 (pB zs k), .bool false] 102)).drew none hJs ⟨rfl, rfl, rfl, (by simp [World.drew]), fun b hb _ => Below.heap_alloc wr _ b hb⟩ (fun r e => by cases e)
          obtain ⟨fn, tmps, assign, body, hy, hR⟩ := hY (upP zs k hk) ⟨k, hlt⟩ _ HJ (by rw [upP_len]; omega)
          have he : encP zs ⟨k, hlt⟩ = #[.int .i64 (k : Int), .agg #[.int .i64 (pA zs k), .int .i64 (pB zs k), .bool false]] := by simp [encP, pL, hal]
          rw [he] at hy
          clear he HJ hY
          gi_wp2
          refine ⟨fun h => (by cases h), hR.mono ?_⟩
          rintro e W3 (⟨rfl, hJ3, hk3⟩ | ⟨rfl, hJx3⟩)
          · gi_wp2
            go_roundw
            case rel => exact ⟨k + 1, by omega, by go_num, by rw [upP_succ zs k hlt]; exact hJ3, fun b hb => ((hk3 b hb).trans (Below.heap_alloc wr _ b (by rcases hb with rfl | rfl <;> assumption))).trans (hkp b hb)⟩
            case measure => simp [intOf]; omega
          · gi_wp2
            refine bodyPost_ret (results_none rfl _ _ _) rfl ?_
            exact ⟨⟨_, rfl⟩, .inr ⟨_, trivial, hJx3⟩⟩
    · have hlt' : ¬ 2 * (k : Int) < (zs.length : Int) := by omega
      obtain rfl : k = (zs.length + 1) / 2 := by omega
      gi_wp2
      go_end0
      exact ⟨⟨_, rfl⟩, .inl hJs⟩

/-- The pairs come in order, all of them, or a round has said no more. -/
theorem pairs_stops (n B bl off lc : Nat) (zs : List Int) (hl : zs.length ≤ 100000) (h1 : 1 ≤ zs.length) (w : World)
    (hB : w.cell? ⟨B, 0, none⟩ = some (.slice (some ⟨bl, off, none⟩) zs.length lc)) (hc : ∀ j, j < zs.length → w.cell? ⟨bl, off + j, none⟩ = some (.int .i64 (zs[j]?.getD 0))) :
    SeqStopsK Fence.wide n Tryd.prog 109 #[.pointer (some ⟨B, 0, none⟩)] (encP zs) (KpB (fun k => k = B ∨ k = bl)) (fun ys => ys = upP zs ((zs.length + 1) / 2) (by omega)) (fun _ => True) ((zs.length + 1) / 2) w := fun l J Jx W hW hJ _ hY h0 => by
  have hBl : B < w.heap.size := World.block_lt_of_cell? w _ hB
  have hbl : bl < w.heap.size := World.block_lt_of_cell? w _ (hc 0 (by omega))
  exact pairs1_in n l B bl off lc zs hl h1 J Jx W hJ hY ((hW.cell (p := ⟨B, 0, none⟩) hBl).trans hB) (fun j hj => (hW.cell (p := ⟨bl, off + j, none⟩) hbl).trans (hc j hj)) h0

end Go.Proofs.YtkjhcblfkpknlaaDoor

namespace Go.Proofs.YtkjhcblfkpknlaaDoor
open Go.ChangeShapes Go.WideShapes Go.ChangeAt Go.RowKit
set_option linter.unusedVariables false
set_option linter.unusedSimpArgs false

theorem Has.grown {w w' : World} {k : IntKind} {a : Option Addr} {len : Nat} {zs : List Int} {row : Option Nat} (h : Has w k a len zs) (hg : w.grownBy w' row) (hne : ∀ ad, a = some ad → some ad.block ≠ row) : Has w' k a len zs := by
  refine ⟨h.1, h.2.1, ?_⟩
  rcases h.2.2 with h0 | ⟨b, off, ha, hlt, hc⟩
  · exact .inl h0
  · exact .inr ⟨b, off, ha, Nat.lt_of_lt_of_le hlt hg.size, fun i hi => (hg.cell_far ⟨b, off + i, none⟩ hlt (hne ⟨b, off, none⟩ ha)).trans (hc i hi)⟩

theorem run_append_nil {P : Program} (w : World) (t ty e : TypeId) (i : TypeInfo) (z : Value) (ht : P.underlying t = some (.slice e)) (hi : P.info? e = some i) (hz : i.zero = some z) (hsize : i.size = 1) (g n cap c : Nat) (hn : n ≤ cap) :
    (Builtin.append_ #[t, t] ty #[.slice (some ⟨g, 0, none⟩) n cap, .slice none 0 c]).run P w = .ok (.slice (some ⟨g, 0, none⟩) n cap) w := by
  simp [Builtin.append_, run_underlying ht, sizeOf, typeInfo, hi, hsize, Builtin.lenOf, hn, Builtin.firstCells, storeCells]

/-- Bytes appended, at the run. -/
theorem run_app {P : Program} (w : World) (t ty base e : TypeId) (i : TypeInfo) (ht : P.underlying t = some (.slice e)) (hi : P.info? e = some i) (hz : i.zero = some (.int .u8 0)) (hsize : i.size = 1) (hby : i.bytes = 1)
    (g n cap : Nat) (xs : List Value) (hown : w.ownsRow base e 1 (.slice (some ⟨g, 0, none⟩) n cap) n xs) (a2 : Option Addr) (c : Nat) (zs : List Int) (hz2 : Has w .u8 a2 zs.length zs) (hn : n ≤ 2097152) (hm : zs.length ≤ 2097152) (hbase : base ≤ w.heap.size) :
    ∃ g' cap' w', (Builtin.append_ #[t, t] ty #[.slice (some ⟨g, 0, none⟩) n cap, .slice a2 zs.length c]).run P w = .ok (.slice (some ⟨g', 0, none⟩) (n + zs.length) cap') w' ∧ w'.ownsRow base e 1 (.slice (some ⟨g', 0, none⟩) (n + zs.length) cap') (n + zs.length) (xs ++ zs.map (.int .u8)) ∧ w.grownBy w' (some g) ∧ (g' = g ∨ g' = w.heap.size) ∧ g' < w'.heap.size := by
  have hgl := (hown.lt g rfl)
  cases a2 with
  | none =>
    have h0 : zs.length = 0 := by
      rcases hz2.2.2 with c | ⟨_, _, c, _⟩
      · exact c
      · cases c
    obtain rfl : zs = [] := List.eq_nil_of_length_eq_zero h0
    have hcap : n ≤ cap := by
      rcases hown.2 with ⟨e1, _⟩ | ⟨_, _, _, e1, _, _, h1, _⟩
      · simp at e1
      · simp at e1; omega
    exact ⟨g, cap, w, run_append_nil w t ty e i _ ht hi hz hsize g n cap c hcap, by simpa using hown, World.grownBy.refl _ _, .inl rfl, hgl.2⟩
  | some ad =>
    obtain ⟨v', w', hr, h2, h3, h4, h5⟩ := run_append_own_at (P := P) w base t ty e i (.int .u8 0) 1 1 ht hi hz hsize hby rfl (by decide) _ n xs hown ad zs.length c (zs.map (.int .u8)) (by simp) hz2.news (by intro u hu; simp at hu; obtain ⟨n, _, rfl⟩ := hu; rfl) (by unfold maxLen; omega) (by omega) hbase
    obtain ⟨a', c', rfl⟩ := own_row_shape h2
    rcases h2.2 with ⟨e1, e2⟩ | ⟨g', cap', cur, e1, h6, h7, _⟩
    · have := (h4.1 e1).1
      simp at this
    · simp at e1
      obtain ⟨rfl, rfl⟩ := e1
      refine ⟨g', _, w', hr, h2, h3, ?_, (Array.getElem?_eq_some_iff.1 h7).1⟩
      simpa [Value.ownBlock] using h5

theorem step_app {P : Program} {ops : Array Oper} {o : Oper} {a : Act} {w : World} {K : Act → World → Prop} {Q : Exit → Act → World → Prop} {E : Prop} (hgd : o.guard = none) (s x : Operand) (t : TypeId)
    (ho : o.op = .call { callee := .builtin .append, args := #[s, x], argTypes := #[t, t] }) (base e : TypeId) (i : TypeInfo) (ht : P.underlying t = some (.slice e)) (hi : P.info? e = some i) (hz : i.zero = some (.int .u8 0)) (hsize : i.size = 1) (hby : i.bytes = 1)
    (g n cap : Nat) (xs : List Value) (hs : a.eval s = .slice (some ⟨g, 0, none⟩) n cap) (hown : w.ownsRow base e 1 (.slice (some ⟨g, 0, none⟩) n cap) n xs) (a2 : Option Addr) (c : Nat) (zs : List Int) (hx : a.eval x = .slice a2 zs.length c) (hz2 : Has w .u8 a2 zs.length zs) (hn : n ≤ 2097152) (hm : zs.length ≤ 2097152) (hbase : base ≤ w.heap.size)
    (h : ∀ g' cap' w', w'.ownsRow base e 1 (.slice (some ⟨g', 0, none⟩) (n + zs.length) cap') (n + zs.length) (xs ++ zs.map (.int .u8)) → w.grownBy w' (some g) → (g' = g ∨ g' = w.heap.size) → g' < w'.heap.size → K (a.put o.dst (.slice (some ⟨g', 0, none⟩) (n + zs.length) cap')) w') :
    if Region.wanted o (yielded ops a.tmps) = true then Oper.wp P o a w K Q else E := by
  have hw : Region.wanted o (yielded ops a.tmps) = true := by simp [Region.wanted, hgd]
  rw [if_pos hw]
  obtain ⟨g', cap', w', hr, h2, h3, h4, h5⟩ := run_app w t o.type base e i ht hi hz hsize hby g n cap xs hown a2 c zs hz2 hn hm hbase
  unfold Oper.wp execOp
  simp only [ho, resolve, invoke, builtin, Sem.run_bind, Sem.run_pure, Result.andThen_ok, List.map_toArray, List.map_cons, List.map_nil, hs, hx, hr]
  exact h g' cap' w' h2 h3 h4 h5

end Go.Proofs.YtkjhcblfkpknlaaDoor

namespace Go.Proofs.YtkjhcblfkpknlaaDoor
open Go.ChangeShapes Go.WideShapes Go.ChangeAt Go.RowKit
set_option linter.unusedVariables false
set_option linter.unusedSimpArgs false

/-- The state of the rounds: where the answer and the level above lie, and what they hold. -/
structure InS (base C V : Nat) (W0 : World) (pv0 : Value) (r : Int) (ps us : List Int) (W : World) (pv av : Value) : Prop where
  c : Blk W C #[.int .i64 r, pv] 70
  v : Blk W V #[av] 24
  prow : W.ownsRow base 2 1 pv ps.length (ps.map (.int .i64))
  arow : W.ownsRow W0.heap.size 2 1 av us.length (us.map (.int .i64))
  apart : ∀ g, pv.ownBlock = some g → av.ownBlock ≠ some g
  old : ∀ g, pv.ownBlock = some g → W0.heap.size ≤ g ∨ pv0.ownBlock = some g
  fr : Fr (fun k => k = C ∨ k = V ∨ pv0.ownBlock = some k) W0 W
theorem InS.below {base C V : Nat} {W0 W W' : World} {pv0 pv av : Value} {r : Int} {ps us : List Int} (h : InS base C V W0 pv0 r ps us W pv av) (hb : Below W.heap.size W W') : InS base C V W0 pv0 r ps us W' pv av :=
  ⟨h.c.below hb h.c.lt, h.v.below hb h.v.lt, own_fr (M := fun _ => False) h.prow (.of_below hb (Nat.le_refl _)) (fun _ _ => id), own_fr (M := fun _ => False) h.arow (.of_below hb (Nat.le_refl _)) (fun _ _ => id), h.apart, h.old, h.fr.trans (M' := fun _ => False) (.of_below hb (Nat.le_refl _)) (fun _ _ e => e.elim)⟩
theorem InS.kept {base C V : Nat} {W0 W W' : World} {pv0 pv av : Value} {r : Int} {ps us : List Int} {row : Option Nat} (h : InS base C V W0 pv0 r ps us W pv av) (hC : C < W0.heap.size) (hV : V < W0.heap.size) (hg : W.grownBy W' row) (hr : ∀ k, row = some k → W0.heap.size ≤ k ∧ ∃ o : Obj, W.heap[k]? = some o ∧ o.isCells = false) : InS base C V W0 pv0 r ps us W' pv av := by
  have hf : Fr (fun k => row = some k) W W' := .of_grown hg (fun k e => e)
  refine ⟨h.c.fr hf (fun e => by have := (hr C e).1; omega), h.v.fr hf (fun e => by have := (hr V e).1; omega), own_fr h.prow hf (fun g e1 e2 => ?_), own_fr h.arow hf (fun g e1 e2 => ?_), h.apart, h.old, h.fr.trans hf (fun i hi e => by have := (hr i e).1; omega)⟩
  · obtain ⟨cs, hc⟩ := own_cells h.prow e1
    obtain ⟨_, o, ho, hn⟩ := hr g e2
    rw [hc] at ho; cases ho; cases hn
  · obtain ⟨cs, hc⟩ := own_cells h.arow e1
    obtain ⟨_, o, ho, hn⟩ := hr g e2
    rw [hc] at ho; cases ho; cases hn

/- Type 70. -/
theorem InS.appendV {base C V : Nat} {W0 W W2 W3 : World} {pv0 pv av av' : Value} {r x : Int} {ps us : List Int} (h : InS base C V W0 pv0 r ps us W pv av) (hC : C < W0.heap.size) (hV : V < W0.heap.size) (hCV : C ≠ V) (hpV : pv0.ownBlock ≠ some V)
    (hb : Below W.heap.size W W2) (hown : W3.ownsRow W0.heap.size 2 1 av' (us.length + 1) (us.map (.int .i64) ++ [.int .i64 x])) (hg : W2.grownBy W3 av.ownBlock) (hn : av'.ownBlock = av.ownBlock ∨ av'.ownBlock = some W2.heap.size) :
    InS base C V W0 pv0 r ps (us ++ [x]) (W3.setCell ⟨V, 0, none⟩ av') pv av' ∧ Fr (fun k => k = V ∨ av.ownBlock = some k) W (W3.setCell ⟨V, 0, none⟩ av') ∧ Blk W3 V #[av] 24 := by
  have h2 := h.below hb
  have f3 : Fr (fun k => av.ownBlock = some k) W2 W3 := .of_grown hg (fun k e => e)
  have hav : ∀ k, av.ownBlock = some k → W0.heap.size ≤ k := fun k e => (h2.arow.lt k e).1
  have v3 : Blk W3 V #[av] 24 := h2.v.fr f3 (fun e => by have := hav V e; omega)
  have c3 : Blk W3 C _ _ := h2.c.fr f3 (fun e => by have := hav C e; omega)
  have p3 := own_fr h2.prow f3 (fun g e1 e2 => h2.apart g e1 e2)
  have fs : Fr (fun k => k = V) W3 (W3.setCell ⟨V, 0, none⟩ av') := (Fr.refl _ _).setCell _ _ rfl
  refine ⟨⟨c3.fr fs hCV, by have := v3.set 0 av'; simpa using this, own_fr p3 fs (fun g e1 e2 => ?_), ?_, fun g e1 e2 => ?_, h.old, ?_⟩, ?_, v3⟩
  · subst e2
    rcases h.old g e1 with h4 | h4
    · omega
    · exact hpV h4
  · have := own_fr hown fs (fun g e1 e2 => by have := (hown.lt g e1).1; omega)
    simpa using this
  · rcases hn with h5 | h5
    · rw [h5] at e2; exact h.apart g e1 e2
    · rw [h5] at e2
      have := (h2.prow.lt g e1).2
      simp at e2
      omega
  · refine (h2.fr.trans f3 (fun i hi e => ?_)).trans fs (fun i hi e => .inr (.inl e))
    have := hav i e; omega
  · exact ((Fr.of_below hb (Nat.le_refl _)).trans f3 (fun i _ e => .inr e)).trans fs (fun i _ e => .inl e)

/- Type 70. -/
theorem InS.appendC {base C V : Nat} {W0 W W2 W3 : World} {pv0 pv av pv' : Value} {r x : Int} {ps us : List Int} (h : InS base C V W0 pv0 r ps us W pv av) (hC : C < W0.heap.size) (hV : V < W0.heap.size) (hCV : C ≠ V) (hpC : pv0.ownBlock ≠ some C) (hpV : pv0.ownBlock ≠ some V)
    (hb : Below W.heap.size W W2) (hown : W3.ownsRow base 2 1 pv' (ps.length + 1) (ps.map (.int .i64) ++ [.int .i64 x])) (hg : W2.grownBy W3 pv.ownBlock) (hn : pv'.ownBlock = pv.ownBlock ∨ pv'.ownBlock = some W2.heap.size) :
    InS base C V W0 pv0 r (ps ++ [x]) us (W3.setCell ⟨C, 1, none⟩ pv') pv' av ∧ Fr (fun k => k = C ∨ pv.ownBlock = some k) W (W3.setCell ⟨C, 1, none⟩ pv') ∧ Blk W3 C #[.int .i64 r, pv] 70 := by
  have h2 := h.below hb
  have hs : W0.heap.size ≤ W2.heap.size := h2.fr.size
  have f3 : Fr (fun k => pv.ownBlock = some k) W2 W3 := .of_grown hg (fun k e => e)
  have npC : pv.ownBlock ≠ some C := fun e => by
    rcases h.old C e with h4 | h4
    · omega
    · exact hpC h4
  have npV : pv.ownBlock ≠ some V := fun e => by
    rcases h.old V e with h4 | h4
    · omega
    · exact hpV h4
  have v3 : Blk W3 V #[av] 24 := h2.v.fr f3 npV
  have c3 : Blk W3 C #[.int .i64 r, pv] 70 := h2.c.fr f3 npC
  have a3 := own_fr h2.arow f3 (fun g e1 e2 => h2.apart g e2 e1)
  have fs : Fr (fun k => k = C) W3 (W3.setCell ⟨C, 1, none⟩ pv') := (Fr.refl _ _).setCell _ _ rfl
  refine ⟨⟨by have := c3.set 1 pv'; simpa using this, v3.fr fs (fun e => hCV e.symm), ?_, own_fr a3 fs (fun g e1 e2 => by have := (h2.arow.lt g e1).1; omega), fun g e1 e2 => ?_, fun g e1 => ?_, ?_⟩, ?_, c3⟩
  · have := own_fr hown fs (fun g e1 e2 => by
      subst e2
      rcases hn with h5 | h5
      · rw [h5] at e1; exact npC e1
      · rw [h5] at e1; simp at e1; omega)
    simpa using this
  · rcases hn with h5 | h5
    · rw [h5] at e1; exact h.apart g e1 e2
    · rw [h5] at e1
      have := (h2.arow.lt g e2).2
      simp at e1
      omega
  · rcases hn with h5 | h5
    · rw [h5] at e1; exact h.old g e1
    · rw [h5] at e1; simp at e1; exact .inl (by omega)
  · refine (h2.fr.trans f3 (fun i hi e => ?_)).trans fs (fun i hi e => .inl e)
    rcases h.old i e with h4 | h4
    · omega
    · exact .inr (.inr h4)
  · exact ((Fr.of_below hb (Nat.le_refl _)).trans f3 (fun i _ e => .inr e)).trans fs (fun i _ e => .inl e)

/- Type 70. -/
/-- What a round owes to the loop over the iterator. -/
theorem InS.pays {base C V B bl : Nat} {W0 W W' : World} {pv0 pv av : Value} {r : Int} {ps us : List Int} (h : InS base C V W0 pv0 r ps us W pv av) (hC : C < W0.heap.size) (hV : V < W0.heap.size)
    (hB : B < W0.heap.size) (hbl : bl < W0.heap.size) (nB : B ≠ C ∧ B ≠ V ∧ pv0.ownBlock ≠ some B) (nb : bl ≠ C ∧ bl ≠ V ∧ pv0.ownBlock ≠ some bl)
    (hf : Fr (fun k => k = C ∨ k = V ∨ pv.ownBlock = some k ∨ av.ownBlock = some k) W W') : KeepsFrom W0.heap.size W W' ∧ KpB (fun k => k = B ∨ k = bl) W W' := by
  refine ⟨⟨hf.size, fun k o hk ho hn => ?_⟩, fun k hk => ?_⟩
  · refine (hf.block k (Array.getElem?_eq_some_iff.1 ho).1 ?_).trans ho
    rintro (e | e | e | e)
    · omega
    · omega
    · obtain ⟨cs, hc⟩ := own_cells h.prow e
      rw [hc] at ho; cases ho; cases hn
    · obtain ⟨cs, hc⟩ := own_cells h.arow e
      rw [hc] at ho; cases ho; cases hn
  · have hk0 : k < W0.heap.size ∧ k ≠ C ∧ k ≠ V ∧ pv0.ownBlock ≠ some k := by
      rcases hk with rfl | rfl
      · exact ⟨hB, nB⟩
      · exact ⟨hbl, nb⟩
    refine hf.block k (Nat.lt_of_lt_of_le hk0.1 h.fr.size) ?_
    rintro (e | e | e | e)
    · exact hk0.2.1 e
    · exact hk0.2.2.1 e
    · rcases h.old k e with h4 | h4
      · omega
      · exact hk0.2.2.2 h4
    · have := (h.arow.lt k e).1
      omega

/-- One number appended to a row of one's own, at a step of a region that draws. -/
theorem step_app1 {P : Program} {ops : Array Oper} {o : Oper} {a : Act} {w : World} {K : Act → World → Prop} {Q : Exit → Act → World → Prop} {E : Prop} (hgd : o.guard = none) (s x : Operand) (t : TypeId)
    (ho : o.op = .call { callee := .builtin .append, args := #[s, x], argTypes := #[t, t] }) (base e : TypeId) (i : TypeInfo) (ht : P.underlying t = some (.slice e)) (hi : P.info? e = some i) (hz : i.zero = some (.int .i64 0)) (hsize : i.size = 1) (hby : i.bytes = 8)
    (v : Value) (n : Nat) (xs : List Value) (hs : a.eval s = v) (hown : w.ownsRow base e 1 v n xs) (g c : Nat) (y : Int) (hx : a.eval x = .slice (some ⟨g, 0, none⟩) 1 c) (hy : w.cell? ⟨g, 0, none⟩ = some (.int .i64 y)) (hn : n ≤ 1000) (hbase : base ≤ w.heap.size)
    (h : ∀ g' c' w', w'.ownsRow base e 1 (.slice (some ⟨g', 0, none⟩) (n + 1) c') (n + 1) (xs ++ [.int .i64 y]) → w.grownBy w' v.ownBlock → ((Value.slice (some ⟨g', 0, none⟩) (n + 1) c').ownBlock = v.ownBlock ∨ (Value.slice (some ⟨g', 0, none⟩) (n + 1) c').ownBlock = some w.heap.size) → K (a.put o.dst (.slice (some ⟨g', 0, none⟩) (n + 1) c')) w') :
    if Region.wanted o (yielded ops a.tmps) = true then Oper.wp P o a w K Q else E := by
  have hw : Region.wanted o (yielded ops a.tmps) = true := by simp [Region.wanted, hgd]
  rw [if_pos hw]
  obtain ⟨v', w', hr, h2, h3, _, h5⟩ := run_append_own_at (P := P) w base t o.type e i (.int .i64 0) 1 8 ht hi hz hsize hby rfl (by decide) v n xs hown ⟨g, 0, none⟩ 1 c [.int .i64 y] rfl
    (fun j u hu => by
      match j with
      | 0 => simp at hu; subst hu; exact hy
      | j + 1 => simp at hu) (by intro u hu; simp at hu; subst hu; rfl) (by unfold maxLen; omega) (by omega) hbase
  obtain ⟨g', c', rfl⟩ := ownsRow_succ h2
  unfold Oper.wp execOp
  simp only [ho, resolve, invoke, builtin, Sem.run_bind, Sem.run_pure, Result.andThen_ok, List.map_toArray, List.map_cons, List.map_nil, hs, hx, hr]
  exact h g' c' w' h2 h3 h5

end Go.Proofs.YtkjhcblfkpknlaaDoor

namespace Go.Proofs.YtkjhcblfkpknlaaDoor
open Go.ChangeShapes Go.WideShapes Go.ChangeAt Go.RowKit
set_option linter.unusedVariables false
set_option linter.unusedSimpArgs false

/-- What a pair comes to on the level above. -/
def jP (zs : List Int) (k : Nat) : Int := jn (pA zs k) (pB zs k) (pL zs k)
/-- The one of a pair that stands beside a place. -/
def bsV (zs : List Int) (a : Int) (k : Nat) : Int := if a % 2 = 0 then pB zs k else pA zs k
/-- What a pair gives to the path. -/
def hitP (zs : List Int) (a : Int) (k : Nat) : List Int := if (k : Int) = a / 2 ∧ pL zs k = false then [bsV zs a k] else []
theorem range_jP : ∀ zs : List Int, (List.range ((zs.length + 1) / 2)).map (jP zs) = upL nS zs
  | [] => rfl
  | [a] => by simp [upL, jP, jn, pL, pA, pB]
  | a :: b :: xs => by
    have e : ((a :: b :: xs).length + 1) / 2 = (xs.length + 1) / 2 + 1 := by simp; omega
    rw [e, List.range_succ_eq_map, List.map_cons, List.map_map, upL, ← range_jP xs]
    have e0 : jP (a :: b :: xs) 0 = nS a b := by simp [jP, jn, pL, pA, pB]
    have e1 : List.map (jP (a :: b :: xs) ∘ Nat.succ) (List.range ((xs.length + 1) / 2)) = List.map (jP xs) (List.range ((xs.length + 1) / 2)) := by
      apply List.map_congr_left
      intro k hk
      have h2 : 2 * (k + 1) = 2 * k + 1 + 1 := by omega
      simp only [Function.comp, jP, pA, pB, pL, Nat.succ_eq_add_one, h2, List.length_cons, List.getElem?_cons_succ, show 2 * k + 1 + 1 + 1 = (2 * k + 1) + 1 + 1 by omega, Nat.add_lt_add_iff_right, Nat.add_right_cancel_iff]
    rw [e0, e1]
theorem range_one (N j : Nat) (g : List Int) : (List.range N).flatMap (fun i => if i = j then g else []) = if j < N then g else [] := by
  induction N with
  | zero => simp
  | succ N ih =>
    rw [List.range_succ, List.flatMap_append, ih]
    by_cases h : j < N
    · rw [if_pos h, if_pos (by omega)]
      simp [show ¬ N = j by omega]
    · rw [if_neg h]
      by_cases h2 : N = j
      · subst h2; simp
      · rw [if_neg (by omega)]; simp [h2]
theorem upP_val (zs : List Int) (k : Nat) (h) : (upP zs k h).map (fun x => x.1) = List.range k := by
  unfold upP; rw [List.map_pmap]; simp
theorem upP_map (zs : List Int) (h) : (upP zs ((zs.length + 1) / 2) h).map (fun x => jP zs x.1) = upL nS zs := by
  rw [← range_jP, ← upP_val zs _ h, List.map_map]; rfl
theorem upP_flat (zs : List Int) (k : Nat) (h) (f : Nat → List Int) : (upP zs k h).flatMap (fun x => f x.1) = (List.range k).flatMap f := by
  rw [← upP_val zs k h, List.flatMap_map]
theorem upP_hit (zs : List Int) (a : Int) (h) (h0 : 0 ≤ a) (ha : a < zs.length) : (upP zs ((zs.length + 1) / 2) h).flatMap (fun x => hitP zs a x.1) = if alone a zs.length = true then [] else [bsAt zs a] := by
  rw [upP_flat]
  have e : (hitP zs a) = fun i => if i = (a / 2).toNat then hitP zs a (a / 2).toNat else [] := by
    funext i
    by_cases hi : i = (a / 2).toNat
    · rw [if_pos hi, hi]
    · rw [if_neg hi]; unfold hitP; rw [if_neg (by omega)]
  rw [e, range_one, if_pos (by omega)]
  unfold hitP
  by_cases hal : alone a zs.length = true
  · have hal' : a % 2 = 0 ∧ a = zs.length - 1 := by simpa [alone] using hal
    rw [if_pos hal, if_neg]
    rintro ⟨_, hp⟩
    simp [pL] at hp
    omega
  · have hal' : ¬ (a % 2 = 0 ∧ a = zs.length - 1) := by simpa [alone] using hal
    rw [if_neg hal, if_pos ⟨by omega, by simp [pL]; omega⟩]
    congr 1
    unfold bsV bsAt pA pB
    by_cases hp : a % 2 = 0
    · rw [if_pos hp, if_pos hp, if_pos (by omega), List.getD_eq_getElem?_getD]
      congr 2
      omega
    · rw [if_neg hp, if_neg hp, List.getD_eq_getElem?_getD]
      congr 2
      omega
theorem pA_bd {zs : List Int} (h : allS zs = true) (k : Nat) (hk : 2 * k < zs.length) : 0 ≤ pA zs k ∧ pA zs k ≤ 65520 := by
  have := allS_get h (2 * k) hk
  unfold pA; simpa [hk] using this
theorem pB_bd {zs : List Int} (h : allS zs = true) (k : Nat) (hk : 2 * k < zs.length) : 0 ≤ pB zs k ∧ pB zs k ≤ 65520 := by
  unfold pB
  split
  · rename_i hlt
    have := allS_get h (2 * k + 1) hlt
    simpa [hlt] using this
  · omega
theorem upL_all (f : Int → Int → Int) (hf : ∀ a b, 0 ≤ f a b ∧ f a b ≤ 65520) : ∀ zs : List Int, allS zs = true → allS (upL f zs) = true
  | [], _ => rfl
  | [a], h => h
  | a :: b :: xs, h => by
    have h1 := (allS_cons h).2
    have h2 := (allS_cons h1).2
    have h3 := upL_all f hf xs h2
    have h4 := hf a b
    unfold allS at *
    simp only [upL, List.all_cons, Bool.and_eq_true, decide_eq_true_eq]
    exact ⟨h4, h3⟩

/-- The marks among the deferred calls: each a block that holds no call. -/
def Marked (base : Nat) (W : World) : List Deferred → Prop
  | [] => True
  | d :: ds => ∃ D, d = { target := .collected D, args := #[] } ∧ base ≤ D ∧ W.heap[D]? = some (.deferred (some [])) ∧ (∀ d' ∈ ds, d'.target ≠ .collected D) ∧ Marked base W ds
theorem Marked.at {base : Nat} {W : World} {k : Nat} : ∀ {ds : List Deferred}, Marked base W ds → (∃ d ∈ ds, d.target = .collected k) → base ≤ k ∧ W.heap[k]? = some (.deferred (some []))
  | [], _, ⟨_, h, _⟩ => by cases h
  | d :: ds, ⟨D, hd, hb, hD, _, hr⟩, ⟨d', hd', ht⟩ => by
    rcases List.mem_cons.1 hd' with rfl | h
    · subst hd; simp at ht; subst ht; exact ⟨hb, hD⟩
    · exact Marked.at hr ⟨d', h, ht⟩
theorem Marked.fr {base : Nat} {W W' : World} : ∀ {ds : List Deferred}, Marked base W ds → (∀ k, (∃ d ∈ ds, d.target = .collected k) → W'.heap[k]? = W.heap[k]?) → Marked base W' ds
  | [], _, _ => trivial
  | d :: ds, ⟨D, hd, hb, hD, hn, hr⟩, h => ⟨D, hd, hb, (h D ⟨d, by simp, by rw [hd]⟩).trans hD, hn, Marked.fr hr (fun k ⟨d', h1, h2⟩ => h k ⟨d', by simp [h1], h2⟩)⟩
/-- A frame on its way out takes all its marks. -/
theorem leaves_marks {F : Fence} {n : Nat} {P : Program} {fn : Func} {tmps : Array Value} {R : Ending → World → Prop} {base : Nat} : ∀ (ds : List Deferred) (W : World), Marked base W ds →
    (∀ W', Fr (fun k => ∃ d ∈ ds, d.target = .collected k) W W' → LeavesIn F n P fn tmps R [] .returning W') → LeavesInM F n P fn tmps R ds .returning W
  | [], W, _, h => h W (Fr.refl _ _)
  | d :: ds, W, ⟨D, hd, hb, hD, hn, hr⟩, h => by
    refine ⟨by simp, .inl ⟨D, _, by rw [hd], run_takeDeferred hD, ?_⟩⟩
    have f1 : Fr (fun k => ∃ e ∈ d :: ds, e.target = .collected k) W (W.putObj D (.deferred none)) := Fr.of_grown (grownBy_putObj' W D _) (fun k e => by cases e; exact ⟨d, by simp, by rw [hd]⟩)
    refine leaves_marks ds _ (hr.fr (fun k ⟨d', h1, h2⟩ => World.putObj_heap_other (fun e => hn d' h1 (by rw [h2, e])))) (fun W' f2 => h W' (f1.trans f2 (fun i _ ⟨e, h1, h2⟩ => ⟨e, by simp [h1], h2⟩)))

set_option maxHeartbeats 1000000 in
theorem beside_any (a b t : Int) (al : Bool) (w : World) (h : 0 ≤ t) :
    Calls Tryd.prog 95 #[.agg #[.int .i64 a, .int .i64 b, .bool al], .int .i64 t] w fun r w' => r = .returned (.int .i64 (if t % 2 = 0 then b else a)) ∧ Below w.heap.size w w' := by
  by_cases he : t % 2 = 0
  · have hd : decide (t % 2 = 0) = true := by simpa using he
    rw [if_pos he]
    clear he
    go_enter Tryd.func95, Tryd.ntmps95
    go_wp2_with (go_at_call 110; refine (firstSide_any t _ h).mono ?_; rintro r u ⟨rfl, rfl⟩; rw [hd])
    go_ret
    exact ⟨rfl, by repeat (first | exact Below.refl _ _ | refine Below.alloc ?_ (by simp) _ | refine Below.setCell ?_ (by simp) _)⟩
  · have hd : decide (t % 2 = 0) = false := by simpa using he
    rw [if_neg he]
    clear he
    go_enter Tryd.func95, Tryd.ntmps95
    go_wp2_with (go_at_call 110; refine (firstSide_any t _ h).mono ?_; rintro r u ⟨rfl, rfl⟩; rw [hd])
    go_ret
    exact ⟨rfl, by repeat (first | exact Below.refl _ _ | refine Below.alloc ?_ (by simp) _ | refine Below.setCell ?_ (by simp) _)⟩

end Go.Proofs.YtkjhcblfkpknlaaDoor
