/- A region that draws its order, in a round of a loop over a function: as it goes everywhere, where nothing in it is deferred. Contracts: the program's climbing of a path. Contracts: the program's iterator over the pairs of a level. Bytes appended to a row of one's own, at a step of a region that draws: whatever the source, nil or empty among them. What the rounds over the pairs of a level leave of memory. What the rounds over the pairs of a level come to; the marks that loops over an iterator leave; the one beside. -/
import Derived.Test.YtngibnmcagogaaaDoorFrame
import Derived.Deep.RegionHeld3
import Derived.RangeFuncNested
import Derived.RangeFuncBound
import Derived.RangeFuncCalls
import Derived.RangeFuncLeaves
import Derived.RangeFuncBox
import Derived.Shelf.Abstract
import Derived.Shelf.RegionOpen
import Derived.OwnWalkIn
import Derived.TacticsInMore
import Derived.LoopNIn
import Derived.LoopIn
import Derived.Maps.AppendAt
import Derived.Test.YtngibnmcagogaaaDoorGrowC
import Derived.Test.YtngibnmcagogaaaDoorISums
import Derived.Test.YtngibnmcagogaaaDoorGrowD
import Derived.Test.YtngibnmcagogaaaDoorPiece
import Derived.Deep.AppendLies
import Derived.Deep.DrawnRows
import Derived.Test.YtngibnmcagogaaaDoorFrB
namespace Go.Proofs.YtngibnmcagogaaaDoor
open Go.ChangeShapes Go.WideShapes Go.ChangeAt Go.RowKit
set_option linter.unusedVariables false
set_option linter.unusedSimpArgs false

theorem Oper.wpIn_of_wp {P : Program} {l n : Nat} {o : Oper} {a : Act} {w : World} {K : Act → World → Prop} {Q : Exit → Act → World → Prop} (hd : ∀ c, o.op ≠ .defer c) (h : o.wp P a w K Q) : o.wpIn (Fence.wide.inRound l) n P a w K Q := by
  unfold Oper.wp at h
  unfold Oper.wpIn
  refine ⟨fun _ _ => trivial, ?_⟩
  rw [Oper.semAt_plain _ _ _ hd]
  generalize (execOp a.eval o).run P w = r at *
  cases r with
  | ok x w' =>
    cases x <;> simp only [Oper.upon] at h <;> simp only [Oper.uponIn]
    all_goals first
      | exact h
      | exact ⟨fun h => (by cases h), callsIn_wide.2 h⟩
      | exact ⟨fun h => (by cases h), fun c cs _ => let ⟨v, w', r, s⟩ := h c cs; ⟨v, w', r, stepsIn_wide.2 s⟩⟩
  | halt x w' => cases x <;> simp only [Oper.upon] at h <;> simp only [Oper.uponIn] <;> exact h
theorem wpOpsIn_of_wpOps {P : Program} {l n : Nat} {ops : Array Oper} {Q : Exit → Act → World → Prop} (hd : ∀ (i : Nat) (o : Oper) c, ops[i]? = some o → o.op ≠ .defer c) (hx : ¬ LetsOut Q) :
    ∀ (is : List Nat) (a : Act) (w : World), wpOps P ops Q is a w → wpOpsIn (Fence.wide.inRound l) n P ops Q is a w
  | [], _, _, h => h
  | i :: is, a, w, h => by
    unfold wpOps at h
    unfold wpOpsIn
    cases ho : ops[i]? with
    | none => rw [ho] at h; exact wpOpsIn_of_wpOps hd hx is a w h
    | some o =>
      rw [ho] at h
      simp only at h ⊢
      split
      · rename_i hw
        rw [if_pos hw] at h
        rcases h with h | h
        · exact Oper.wpIn_of_wp (fun c => hd i o c ho) (Oper.wp_mono (fun a w h => wpOpsIn_of_wpOps hd hx is a w h) h)
        · exact absurd h.2 hx
      · rename_i hw
        rw [if_neg hw] at h
        exact ⟨fun _ _ => trivial, wpOpsIn_of_wpOps hd hx is _ w h⟩
/-- Nothing in a region is deferred. -/
def noDefer (ops : Array Oper) : Bool := ops.toList.all fun o => match o.op with | .defer _ => false | _ => true
theorem noDefer_of {ops : Array Oper} (h : noDefer ops = true) (i : Nat) (o : Oper) (c) (ho : ops[i]? = some o) : o.op ≠ .defer c := by
  intro e
  unfold noDefer at h
  rw [List.all_eq_true] at h
  have := h o (by rw [← Array.mem_def]; exact Array.mem_of_getElem? ho)
  rw [e] at this
  simp at this
/-- The beginning of a region that draws, in a round. -/
theorem wpIn_round_held {P : Program} {l n id : Nat} {ops : Array Oper} {Q : Exit → Act → World → Prop} {S : World → Prop} {a : Act} {w : World} (hm : P.follows .mixedOrders = true) (hd : noDefer ops = true) (hx : ¬ LetsOut Q) (hS : S w.drew)
    (h : S w.drew → wpAnyH P .any ops Q S ops.size (Array.replicate ops.size false) a w.drew) : (Code.region id ops true).wpIn (Fence.wide.inRound l) n P Q a w :=
  wpIn_region_draw fun t => by
    simp only [Region.schedule, hm, Bool.true_or, if_true]
    exact wpOpsIn_of_wpOps (noDefer_of hd) hx _ _ _ (wpAny_sound ops.size t _ a _ (wpAny_of_held _ _ _ _ (h hS)))

end Go.Proofs.YtngibnmcagogaaaDoor

namespace Go.Proofs.YtngibnmcagogaaaDoor
open Go.ChangeShapes Go.WideShapes Go.ChangeAt Go.RowKit
set_option linter.unusedVariables false
set_option linter.unusedSimpArgs false

theorem nodeV_nS {a b : Int} (h : (0 ≤ a ∧ a ≤ 65520) ∧ 0 ≤ b ∧ b ≤ 65520) : nodeV a b = nS a b := by unfold nodeV nS; rw [if_pos h]

/-- The first of a pair. -/
def prA (a own other : Int) : Int := if a % 2 = 0 then own else other
/-- The second of a pair. -/
def prB (a own other : Int) : Int := if a % 2 = 0 then other else own
theorem joinAt_pr (f : Int → Int → Int) (a own other : Int) : joinAt f a own other = f (prA a own other) (prB a own other) := by
  unfold joinAt prA prB; split <;> rfl

/-- The code of a climb whose numbers are in their bounds. -/
def cpC (a s : Int) (q : List Int) : Int := if q.length = stN a s then 0 else 8
/-- What it comes to. -/
def cpV (r a s : Int) (q : List Int) : Int := if q.length = stN a s then clM nS r a s q else 0
theorem cp_alone {r a s : Int} {q : List Int} (h2 : 2 ≤ s) (h3 : s ≤ 32) (ha : 0 ≤ a) (hs : a < s) (hal : alone a s = true) : cpC (a / 2) ((s + 1) / 2) q = cpC a s q ∧ cpV r (a / 2) ((s + 1) / 2) q = cpV r a s q := by
  have e := stN_up _ a s (Nat.le_refl _) h2 h3 ha hs
  rw [hal, if_pos rfl, Nat.add_zero] at e
  unfold cpC cpV
  rw [e, clM_alone nS _ r a s q (Nat.le_refl _) h2 h3 ha hs hal]
  exact ⟨rfl, rfl⟩
theorem cp_pair {r a s p0 : Int} {q : List Int} (h2 : 2 ≤ s) (h3 : s ≤ 32) (ha : 0 ≤ a) (hs : a < s) (hal : alone a s = false) : cpC (a / 2) ((s + 1) / 2) q = cpC a s (p0 :: q) ∧ cpV (jn (prA a r p0) (prB a r p0) false) (a / 2) ((s + 1) / 2) q = cpV r a s (p0 :: q) := by
  have e := stN_up _ a s (Nat.le_refl _) h2 h3 ha hs
  rw [hal] at e
  simp at e
  have ej : jn (prA a r p0) (prB a r p0) false = joinAt nS a r p0 := by rw [joinAt_pr]; rfl
  unfold cpC cpV
  rw [e, ej]
  by_cases hq : q.length = stN (a / 2) ((s + 1) / 2)
  · have hq' : (p0 :: q).length = stN (a / 2) ((s + 1) / 2) + 1 := by simp [hq]
    rw [if_pos hq, if_pos hq, if_pos hq', if_pos hq', clM_pair nS _ r a s p0 q (Nat.le_refl _) h2 h3 ha hs hal hq]
    exact ⟨rfl, rfl⟩
  · have hq' : ¬ (p0 :: q).length = stN (a / 2) ((s + 1) / 2) + 1 := by simp [hq]
    rw [if_neg hq, if_neg hq, if_neg hq', if_neg hq']
    exact ⟨rfl, rfl⟩
theorem cp_nil {r a s : Int} (h2 : 2 ≤ s) (h3 : s ≤ 32) (ha : 0 ≤ a) (hs : a < s) (hal : alone a s = false) : cpC a s [] = 8 ∧ cpV r a s [] = 0 := by
  have e := stN_up _ a s (Nat.le_refl _) h2 h3 ha hs
  rw [hal] at e
  simp at e
  unfold cpC cpV
  rw [e, if_neg (by simp), if_neg (by simp)]
  exact ⟨rfl, rfl⟩
theorem cp_one {r a s : Int} {q : List Int} (h : s ≤ 1) : cpC a s q = (if q.length = 0 then 0 else 8) ∧ cpV r a s q = (if q.length = 0 then r else 0) := by
  unfold cpC cpV
  rw [stN_le a s h, clM_le nS r a s q h]
  exact ⟨rfl, rfl⟩
theorem jn_bd {a b : Int} {al : Bool} (ha : 0 ≤ a ∧ a ≤ 65520) : 0 ≤ jn a b al ∧ jn a b al ≤ 65520 := by
  unfold jn; split
  · exact ha
  · exact nS_bd _ _
theorem allS_cons {p : Int} {q : List Int} (h : allS (p :: q) = true) : (0 ≤ p ∧ p ≤ 65520) ∧ allS q = true := by
  unfold allS at *; simp at h; exact ⟨h.1, by simpa using h.2⟩
theorem Has.tail {w : World} {b o : Nat} {p : Int} {q : List Int} (h : Has w .i64 (some ⟨b, o, none⟩) (p :: q).length (p :: q)) : Has w .i64 (some ⟨b, o + 1, none⟩) q.length q := by
  refine ⟨rfl, fun x hx => h.2.1 x (List.mem_cons_of_mem _ hx), ?_⟩
  rcases h.2.2 with c | ⟨b', off', e, hlt, hc⟩
  · simp at c
  · simp at e
    obtain ⟨rfl, rfl⟩ := e
    refine .inr ⟨b, o + 1, rfl, hlt, fun j hj => ?_⟩
    have := hc (1 + j) (by simp; omega)
    rw [show o + 1 + j = o + (1 + j) by omega, this]
    simp [List.getD, show 1 + j = j + 1 by omega]

end Go.Proofs.YtngibnmcagogaaaDoor

namespace Go.Proofs.YtngibnmcagogaaaDoor
open Go.ChangeShapes Go.WideShapes Go.ChangeAt Go.RowKit
set_option linter.unusedVariables false
set_option linter.unusedSimpArgs false

attribute [local go_sem] Oper.semAt_some

/-- The first of a pair, the second, whether it is alone. -/
def pA (zs : List Int) (k : Nat) : Int := zs[2 * k]?.getD 0
def pB (zs : List Int) (k : Nat) : Int := if 2 * k + 1 < zs.length then zs[2 * k + 1]?.getD 0 else 0
def pL (zs : List Int) (k : Nat) : Bool := decide (2 * k + 1 = zs.length)
/-- A place on the level above. -/
abbrev Pl (zs : List Int) := { k : Nat // 2 * k < zs.length }
def encP (zs : List Int) (x : Pl zs) : Array Value := #[.int .i64 (x.1 : Int), .agg #[.int .i64 (pA zs x.1), .int .i64 (pB zs x.1), .bool (pL zs x.1)]]
/-- The blocks of a set are as they were. -/
def KpB (M : Nat → Prop) (W W' : World) : Prop := ∀ k, M k → W'.heap[k]? = W.heap[k]?
/-- The first places, in order. -/
def upP (zs : List Int) (k : Nat) (h : 2 * k < zs.length + 2) : List (Pl zs) := (List.range k).pmap (fun i hi => ⟨i, hi⟩) (fun i hi => by have := List.mem_range.1 hi; omega)
theorem upP_len (zs : List Int) (k : Nat) (h) : (upP zs k h).length = k := by simp [upP]
theorem upP_succ (zs : List Int) (k : Nat) (h : 2 * k < zs.length) : upP zs (k + 1) (by omega) = upP zs k (by omega) ++ [⟨k, h⟩] := by
  unfold upP
  simp [List.range_succ, List.pmap_append]

end Go.Proofs.YtngibnmcagogaaaDoor

namespace Go.Proofs.YtngibnmcagogaaaDoor
open Go.ChangeShapes Go.WideShapes Go.ChangeAt Go.RowKit
set_option linter.unusedVariables false
set_option linter.unusedSimpArgs false

theorem Has.grown {w w' : World} {k : IntKind} {a : Option Addr} {len : Nat} {zs : List Int} {row : Option Nat} (h : Has w k a len zs) (hg : w.grownBy w' row) (hne : ∀ ad, a = some ad → some ad.block ≠ row) : Has w' k a len zs := by
  refine ⟨h.1, h.2.1, ?_⟩
  rcases h.2.2 with h0 | ⟨b, off, ha, hlt, hc⟩
  · exact .inl h0
  · exact .inr ⟨b, off, ha, Nat.lt_of_lt_of_le hlt hg.size, fun i hi => (hg.cell_far ⟨b, off + i, none⟩ hlt (hne ⟨b, off, none⟩ ha)).trans (hc i hi)⟩

theorem run_append_nil {P : Program} (w : World) (t ty e : TypeId) (i : TypeInfo) (z : Value) (ht : P.underlying t = some (.slice e)) (hi : P.info? e = some i) (hz : i.zero = some z) (hsize : i.size = 1) (g n cap c : Nat) (hn : n ≤ cap) :
    (Builtin.append_ #[t, t] ty #[.slice (some ⟨g, 0, none⟩) n cap, .slice none 0 c]).run P w = .ok (.slice (some ⟨g, 0, none⟩) n cap) w := by
  simp [Builtin.append_, run_underlying ht, sizeOf, typeInfo, hi, hsize, Builtin.lenOf, hn, Builtin.firstCells, storeCells]

/-- Bytes appended, at the run. -/
theorem run_app {P : Program} (w : World) (t ty base e : TypeId) (i : TypeInfo) (ht : P.underlying t = some (.slice e)) (hi : P.info? e = some i) (hz : i.zero = some (.int .u8 0)) (hsize : i.size = 1) (hby : i.bytes = 1)
    (g n cap : Nat) (xs : List Value) (hown : w.ownsRow base e 1 (.slice (some ⟨g, 0, none⟩) n cap) n xs) (a2 : Option Addr) (c : Nat) (zs : List Int) (hz2 : Has w .u8 a2 zs.length zs) (hn : n ≤ 2097152) (hm : zs.length ≤ 2097152) (hbase : base ≤ w.heap.size) :
    ∃ g' cap' w', (Builtin.append_ #[t, t] ty #[.slice (some ⟨g, 0, none⟩) n cap, .slice a2 zs.length c]).run P w = .ok (.slice (some ⟨g', 0, none⟩) (n + zs.length) cap') w' ∧ w'.ownsRow base e 1 (.slice (some ⟨g', 0, none⟩) (n + zs.length) cap') (n + zs.length) (xs ++ zs.map (.int .u8)) ∧ w.grownBy w' (some g) ∧ (g' = g ∨ g' = w.heap.size) ∧ g' < w'.heap.size := by
  have hgl := (hown.lt g rfl)
  cases a2 with
  | none =>
    have h0 : zs.length = 0 := by
      rcases hz2.2.2 with c | ⟨_, _, c, _⟩
      · exact c
      · cases c
    obtain rfl : zs = [] := List.eq_nil_of_length_eq_zero h0
    have hcap : n ≤ cap := by
      rcases hown.2 with ⟨e1, _⟩ | ⟨_, _, _, e1, _, _, h1, _⟩
      · simp at e1
      · simp at e1; omega
    exact ⟨g, cap, w, run_append_nil w t ty e i _ ht hi hz hsize g n cap c hcap, by simpa using hown, World.grownBy.refl _ _, .inl rfl, hgl.2⟩
  | some ad =>
    obtain ⟨v', w', hr, h2, h3, h4, h5⟩ := run_append_own_at (P := P) w base t ty e i (.int .u8 0) 1 1 ht hi hz hsize hby rfl (by decide) _ n xs hown ad zs.length c (zs.map (.int .u8)) (by simp) hz2.news (by intro u hu; simp at hu; obtain ⟨n, _, rfl⟩ := hu; rfl) (by unfold maxLen; omega) (by omega) hbase
    obtain ⟨a', c', rfl⟩ := own_row_shape h2
    rcases h2.2 with ⟨e1, e2⟩ | ⟨g', cap', cur, e1, h6, h7, _⟩
    · have := (h4.1 e1).1
      simp at this
    · simp at e1
      obtain ⟨rfl, rfl⟩ := e1
      refine ⟨g', _, w', hr, h2, h3, ?_, (Array.getElem?_eq_some_iff.1 h7).1⟩
      simpa [Value.ownBlock] using h5

theorem step_app {P : Program} {ops : Array Oper} {o : Oper} {a : Act} {w : World} {K : Act → World → Prop} {Q : Exit → Act → World → Prop} {E : Prop} (hgd : o.guard = none) (s x : Operand) (t : TypeId)
    (ho : o.op = .call { callee := .builtin .append, args := #[s, x], argTypes := #[t, t] }) (base e : TypeId) (i : TypeInfo) (ht : P.underlying t = some (.slice e)) (hi : P.info? e = some i) (hz : i.zero = some (.int .u8 0)) (hsize : i.size = 1) (hby : i.bytes = 1)
    (g n cap : Nat) (xs : List Value) (hs : a.eval s = .slice (some ⟨g, 0, none⟩) n cap) (hown : w.ownsRow base e 1 (.slice (some ⟨g, 0, none⟩) n cap) n xs) (a2 : Option Addr) (c : Nat) (zs : List Int) (hx : a.eval x = .slice a2 zs.length c) (hz2 : Has w .u8 a2 zs.length zs) (hn : n ≤ 2097152) (hm : zs.length ≤ 2097152) (hbase : base ≤ w.heap.size)
    (h : ∀ g' cap' w', w'.ownsRow base e 1 (.slice (some ⟨g', 0, none⟩) (n + zs.length) cap') (n + zs.length) (xs ++ zs.map (.int .u8)) → w.grownBy w' (some g) → (g' = g ∨ g' = w.heap.size) → g' < w'.heap.size → K (a.put o.dst (.slice (some ⟨g', 0, none⟩) (n + zs.length) cap')) w') :
    if Region.wanted o (yielded ops a.tmps) = true then Oper.wp P o a w K Q else E := by
  have hw : Region.wanted o (yielded ops a.tmps) = true := by simp [Region.wanted, hgd]
  rw [if_pos hw]
  obtain ⟨g', cap', w', hr, h2, h3, h4, h5⟩ := run_app w t o.type base e i ht hi hz hsize hby g n cap xs hown a2 c zs hz2 hn hm hbase
  unfold Oper.wp execOp
  simp only [ho, resolve, invoke, builtin, Sem.run_bind, Sem.run_pure, Result.andThen_ok, List.map_toArray, List.map_cons, List.map_nil, hs, hx, hr]
  exact h g' cap' w' h2 h3 h4 h5

end Go.Proofs.YtngibnmcagogaaaDoor

namespace Go.Proofs.YtngibnmcagogaaaDoor
open Go.ChangeShapes Go.WideShapes Go.ChangeAt Go.RowKit
set_option linter.unusedVariables false
set_option linter.unusedSimpArgs false

/-- One number appended to a row of one's own, at a step of a region that draws. -/
theorem step_app1 {P : Program} {ops : Array Oper} {o : Oper} {a : Act} {w : World} {K : Act → World → Prop} {Q : Exit → Act → World → Prop} {E : Prop} (hgd : o.guard = none) (s x : Operand) (t : TypeId)
    (ho : o.op = .call { callee := .builtin .append, args := #[s, x], argTypes := #[t, t] }) (base e : TypeId) (i : TypeInfo) (ht : P.underlying t = some (.slice e)) (hi : P.info? e = some i) (hz : i.zero = some (.int .i64 0)) (hsize : i.size = 1) (hby : i.bytes = 8)
    (v : Value) (n : Nat) (xs : List Value) (hs : a.eval s = v) (hown : w.ownsRow base e 1 v n xs) (g c : Nat) (y : Int) (hx : a.eval x = .slice (some ⟨g, 0, none⟩) 1 c) (hy : w.cell? ⟨g, 0, none⟩ = some (.int .i64 y)) (hn : n ≤ 1000) (hbase : base ≤ w.heap.size)
    (h : ∀ g' c' w', w'.ownsRow base e 1 (.slice (some ⟨g', 0, none⟩) (n + 1) c') (n + 1) (xs ++ [.int .i64 y]) → w.grownBy w' v.ownBlock → ((Value.slice (some ⟨g', 0, none⟩) (n + 1) c').ownBlock = v.ownBlock ∨ (Value.slice (some ⟨g', 0, none⟩) (n + 1) c').ownBlock = some w.heap.size) → K (a.put o.dst (.slice (some ⟨g', 0, none⟩) (n + 1) c')) w') :
    if Region.wanted o (yielded ops a.tmps) = true then Oper.wp P o a w K Q else E := by
  have hw : Region.wanted o (yielded ops a.tmps) = true := by simp [Region.wanted, hgd]
  rw [if_pos hw]
  obtain ⟨v', w', hr, h2, h3, _, h5⟩ := run_append_own_at (P := P) w base t o.type e i (.int .i64 0) 1 8 ht hi hz hsize hby rfl (by decide) v n xs hown ⟨g, 0, none⟩ 1 c [.int .i64 y] rfl
    (fun j u hu => by
      match j with
      | 0 => simp at hu; subst hu; exact hy
      | j + 1 => simp at hu) (by intro u hu; simp at hu; subst hu; rfl) (by unfold maxLen; omega) (by omega) hbase
  obtain ⟨g', c', rfl⟩ := ownsRow_succ h2
  unfold Oper.wp execOp
  simp only [ho, resolve, invoke, builtin, Sem.run_bind, Sem.run_pure, Result.andThen_ok, List.map_toArray, List.map_cons, List.map_nil, hs, hx, hr]
  exact h g' c' w' h2 h3 h5

end Go.Proofs.YtngibnmcagogaaaDoor

namespace Go.Proofs.YtngibnmcagogaaaDoor
open Go.ChangeShapes Go.WideShapes Go.ChangeAt Go.RowKit
set_option linter.unusedVariables false
set_option linter.unusedSimpArgs false

/-- What a pair comes to on the level above. -/
def jP (zs : List Int) (k : Nat) : Int := jn (pA zs k) (pB zs k) (pL zs k)
/-- The one of a pair that stands beside a place. -/
def bsV (zs : List Int) (a : Int) (k : Nat) : Int := if a % 2 = 0 then pB zs k else pA zs k
/-- What a pair gives to the path. -/
def hitP (zs : List Int) (a : Int) (k : Nat) : List Int := if (k : Int) = a / 2 ∧ pL zs k = false then [bsV zs a k] else []
theorem range_jP : ∀ zs : List Int, (List.range ((zs.length + 1) / 2)).map (jP zs) = upL nS zs
  | [] => rfl
  | [a] => by simp [upL, jP, jn, pL, pA, pB]
  | a :: b :: xs => by
    have e : ((a :: b :: xs).length + 1) / 2 = (xs.length + 1) / 2 + 1 := by simp; omega
    rw [e, List.range_succ_eq_map, List.map_cons, List.map_map, upL, ← range_jP xs]
    have e0 : jP (a :: b :: xs) 0 = nS a b := by simp [jP, jn, pL, pA, pB]
    have e1 : List.map (jP (a :: b :: xs) ∘ Nat.succ) (List.range ((xs.length + 1) / 2)) = List.map (jP xs) (List.range ((xs.length + 1) / 2)) := by
      apply List.map_congr_left
      intro k hk
      have h2 : 2 * (k + 1) = 2 * k + 1 + 1 := by omega
      simp only [Function.comp, jP, pA, pB, pL, Nat.succ_eq_add_one, h2, List.length_cons, List.getElem?_cons_succ, show 2 * k + 1 + 1 + 1 = (2 * k + 1) + 1 + 1 by omega, Nat.add_lt_add_iff_right, Nat.add_right_cancel_iff]
    rw [e0, e1]
theorem range_one (N j : Nat) (g : List Int) : (List.range N).flatMap (fun i => if i = j then g else []) = if j < N then g else [] := by
  induction N with
  | zero => simp
  | succ N ih =>
    rw [List.range_succ, List.flatMap_append, ih]
    by_cases h : j < N
    · rw [if_pos h, if_pos (by omega)]
      simp [show ¬ N = j by omega]
    · rw [if_neg h]
      by_cases h2 : N = j
      · subst h2; simp
      · rw [if_neg (by omega)]; simp [h2]
theorem upP_val (zs : List Int) (k : Nat) (h) : (upP zs k h).map (fun x => x.1) = List.range k := by
  unfold upP; rw [List.map_pmap]; simp
theorem upP_map (zs : List Int) (h) : (upP zs ((zs.length + 1) / 2) h).map (fun x => jP zs x.1) = upL nS zs := by
  rw [← range_jP, ← upP_val zs _ h, List.map_map]; rfl
theorem upP_flat (zs : List Int) (k : Nat) (h) (f : Nat → List Int) : (upP zs k h).flatMap (fun x => f x.1) = (List.range k).flatMap f := by
  rw [← upP_val zs k h, List.flatMap_map]
theorem upP_hit (zs : List Int) (a : Int) (h) (h0 : 0 ≤ a) (ha : a < zs.length) : (upP zs ((zs.length + 1) / 2) h).flatMap (fun x => hitP zs a x.1) = if alone a zs.length = true then [] else [bsAt zs a] := by
  rw [upP_flat]
  have e : (hitP zs a) = fun i => if i = (a / 2).toNat then hitP zs a (a / 2).toNat else [] := by
    funext i
    by_cases hi : i = (a / 2).toNat
    · rw [if_pos hi, hi]
    · rw [if_neg hi]; unfold hitP; rw [if_neg (by omega)]
  rw [e, range_one, if_pos (by omega)]
  unfold hitP
  by_cases hal : alone a zs.length = true
  · have hal' : a % 2 = 0 ∧ a = zs.length - 1 := by simpa [alone] using hal
    rw [if_pos hal, if_neg]
    rintro ⟨_, hp⟩
    simp [pL] at hp
    omega
  · have hal' : ¬ (a % 2 = 0 ∧ a = zs.length - 1) := by simpa [alone] using hal
    rw [if_neg hal, if_pos ⟨by omega, by simp [pL]; omega⟩]
    congr 1
    unfold bsV bsAt pA pB
    by_cases hp : a % 2 = 0
    · rw [if_pos hp, if_pos hp, if_pos (by omega), List.getD_eq_getElem?_getD]
      congr 2
      omega
    · rw [if_neg hp, if_neg hp, List.getD_eq_getElem?_getD]
      congr 2
      omega
theorem pA_bd {zs : List Int} (h : allS zs = true) (k : Nat) (hk : 2 * k < zs.length) : 0 ≤ pA zs k ∧ pA zs k ≤ 65520 := by
  have := allS_get h (2 * k) hk
  unfold pA; simpa [hk] using this
theorem pB_bd {zs : List Int} (h : allS zs = true) (k : Nat) (hk : 2 * k < zs.length) : 0 ≤ pB zs k ∧ pB zs k ≤ 65520 := by
  unfold pB
  split
  · rename_i hlt
    have := allS_get h (2 * k + 1) hlt
    simpa [hlt] using this
  · omega
theorem upL_all (f : Int → Int → Int) (hf : ∀ a b, 0 ≤ f a b ∧ f a b ≤ 65520) : ∀ zs : List Int, allS zs = true → allS (upL f zs) = true
  | [], _ => rfl
  | [a], h => h
  | a :: b :: xs, h => by
    have h1 := (allS_cons h).2
    have h2 := (allS_cons h1).2
    have h3 := upL_all f hf xs h2
    have h4 := hf a b
    unfold allS at *
    simp only [upL, List.all_cons, Bool.and_eq_true, decide_eq_true_eq]
    exact ⟨h4, h3⟩

/-- The marks among the deferred calls: each a block that holds no call. -/
def Marked (base : Nat) (W : World) : List Deferred → Prop
  | [] => True
  | d :: ds => ∃ D, d = { target := .collected D, args := #[] } ∧ base ≤ D ∧ W.heap[D]? = some (.deferred (some [])) ∧ (∀ d' ∈ ds, d'.target ≠ .collected D) ∧ Marked base W ds
theorem Marked.at {base : Nat} {W : World} {k : Nat} : ∀ {ds : List Deferred}, Marked base W ds → (∃ d ∈ ds, d.target = .collected k) → base ≤ k ∧ W.heap[k]? = some (.deferred (some []))
  | [], _, ⟨_, h, _⟩ => by cases h
  | d :: ds, ⟨D, hd, hb, hD, _, hr⟩, ⟨d', hd', ht⟩ => by
    rcases List.mem_cons.1 hd' with rfl | h
    · subst hd; simp at ht; subst ht; exact ⟨hb, hD⟩
    · exact Marked.at hr ⟨d', h, ht⟩
theorem Marked.fr {base : Nat} {W W' : World} : ∀ {ds : List Deferred}, Marked base W ds → (∀ k, (∃ d ∈ ds, d.target = .collected k) → W'.heap[k]? = W.heap[k]?) → Marked base W' ds
  | [], _, _ => trivial
  | d :: ds, ⟨D, hd, hb, hD, hn, hr⟩, h => ⟨D, hd, hb, (h D ⟨d, by simp, by rw [hd]⟩).trans hD, hn, Marked.fr hr (fun k ⟨d', h1, h2⟩ => h k ⟨d', by simp [h1], h2⟩)⟩
/-- A frame on its way out takes all its marks. -/
theorem leaves_marks {F : Fence} {n : Nat} {P : Program} {fn : Func} {tmps : Array Value} {R : Ending → World → Prop} {base : Nat} : ∀ (ds : List Deferred) (W : World), Marked base W ds →
    (∀ W', Fr (fun k => ∃ d ∈ ds, d.target = .collected k) W W' → LeavesIn F n P fn tmps R [] .returning W') → LeavesInM F n P fn tmps R ds .returning W
  | [], W, _, h => h W (Fr.refl _ _)
  | d :: ds, W, ⟨D, hd, hb, hD, hn, hr⟩, h => by
    refine ⟨by simp, .inl ⟨D, _, by rw [hd], run_takeDeferred hD, ?_⟩⟩
    have f1 : Fr (fun k => ∃ e ∈ d :: ds, e.target = .collected k) W (W.putObj D (.deferred none)) := Fr.of_grown (grownBy_putObj' W D _) (fun k e => by cases e; exact ⟨d, by simp, by rw [hd]⟩)
    refine leaves_marks ds _ (hr.fr (fun k ⟨d', h1, h2⟩ => World.putObj_heap_other (fun e => hn d' h1 (by rw [h2, e])))) (fun W' f2 => h W' (f1.trans f2 (fun i _ ⟨e, h1, h2⟩ => ⟨e, by simp [h1], h2⟩)))

end Go.Proofs.YtngibnmcagogaaaDoor
