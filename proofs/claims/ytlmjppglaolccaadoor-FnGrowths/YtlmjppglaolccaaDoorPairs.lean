/- Contracts: the program's iterator over the pairs of a level. -/
import Derived.Test.YtlmjppglaolccaaDoorRnd
import Derived.Test.YtlmjppglaolccaaDoorIClimb4
import Derived.Test.YtlmjppglaolccaaDoorRootD
namespace Go.Proofs.YtlmjppglaolccaaDoor
open Go.ChangeShapes Go.WideShapes Go.ChangeAt Go.RowKit
set_option linter.unusedVariables false
set_option linter.unusedSimpArgs false

attribute [local go_sem] Oper.semAt_some

/-- The first of a pair, the second, whether it is alone. -/
def pA (zs : List Int) (k : Nat) : Int := zs[2 * k]?.getD 0
def pB (zs : List Int) (k : Nat) : Int := if 2 * k + 1 < zs.length then zs[2 * k + 1]?.getD 0 else 0
def pL (zs : List Int) (k : Nat) : Bool := decide (2 * k + 1 = zs.length)
/-- A place on the level above. -/
abbrev Pl (zs : List Int) := { k : Nat // 2 * k < zs.length }
def encP (zs : List Int) (x : Pl zs) : Array Value := #[.int .i64 (x.1 : Int), .agg #[.int .i64 (pA zs x.1), .int .i64 (pB zs x.1), .bool (pL zs x.1)]]
/-- The blocks of a set are as they were. -/
def KpB (M : Nat → Prop) (W W' : World) : Prop := ∀ k, M k → W'.heap[k]? = W.heap[k]?
/-- The first places, in order. -/
def upP (zs : List Int) (k : Nat) (h : 2 * k < zs.length + 2) : List (Pl zs) := (List.range k).pmap (fun i hi => ⟨i, hi⟩) (fun i hi => by have := List.mem_range.1 hi; omega)
theorem upP_len (zs : List Int) (k : Nat) (h) : (upP zs k h).length = k := by simp [upP]
theorem upP_succ (zs : List Int) (k : Nat) (h : 2 * k < zs.length) : upP zs (k + 1) (by omega) = upP zs k (by omega) ++ [⟨k, h⟩] := by
  unfold upP
  simp [List.range_succ, List.pmap_append]

set_option maxHeartbeats 1000000 in
theorem pairsOf_any (a : Option Addr) (n c : Nat) (w : World) :
    Calls Tryd.prog 64 #[.slice a n c] w fun r w' => r = .returned (.func (.func 72) #[] #[.pointer (some ⟨w.heap.size, 0, none⟩)]) ∧ w' = w.alloc (.cells #[.slice a n c] 24) := by
  go_enter Tryd.func64, Tryd.ntmps64
  go_wp2
  go_ret
  exact ⟨rfl, rfl⟩

set_option maxRecDepth 100000 in
set_option maxHeartbeats 4000000 in
theorem pairs1_in (n l B bl off lc : Nat) (zs : List Int) (hl : zs.length ≤ 24) (h1 : 1 ≤ zs.length) (J Jx : List (Pl zs) → World → Prop) (W : World) (hJ : AbidesFrom W.heap.size J)
    (hY : ∀ pre x W1, J pre W1 → pre.length < (zs.length + 1) / 2 → YieldAt Fence.wide (n - 1) Tryd.prog l (encP zs x) W1 fun e W' =>
      (e = .returned (.bool true) ∧ J (pre ++ [x]) W' ∧ KpB (fun k => k = B ∨ k = bl) W1 W') ∨ (e = .returned (.bool false) ∧ Jx (pre ++ [x]) W'))
    (hB : W.cell? ⟨B, 0, none⟩ = some (.slice (some ⟨bl, off, none⟩) zs.length lc)) (hc : ∀ j, j < zs.length → W.cell? ⟨bl, off + j, none⟩ = some (.int .i64 (zs[j]?.getD 0))) (h0 : J [] W) :
    CallsIn Fence.wide n Tryd.prog 72 #[.func (.yield l) #[] #[], .pointer (some ⟨B, 0, none⟩)] W fun e W' => (∃ v, e = .returned v) ∧
      ((∃ ys, ys = upP zs ((zs.length + 1) / 2) (by omega) ∧ J ys W') ∨ (∃ pre, True ∧ Jx pre W')) := by
  refine callsIn_of_wp Tryd.func72 rfl trivial ?_ rfl
  simp only [Tryd.ntmps72, List.size_toArray, List.length_cons, List.length_nil, Nat.reduceAdd, Nat.reduceSub, Array.replicate_succ, Array.replicate_zero, List.push_toArray, List.append_toArray, List.nil_append, List.cons_append]
  gi_wp2
  gi_loopw [4] (fun i wr => ∃ (k : Nat) (h : 2 * k < zs.length + 2), i = .int .i64 (2 * (k : Int)) ∧ J (upP zs k h) wr ∧ KpB (fun k => k = B ∨ k = bl) W wr) (fun i _ => zs.length + 2 - (intOf i).toNat)
  case atStart => exact ⟨0, by omega, rfl, h0, fun _ _ => rfl⟩
  case round =>
    obtain ⟨k, hk, rfl, hJs, hkp⟩ := hrel
    have gB : wr.cell? ⟨B, 0, none⟩ = some (.slice (some ⟨bl, off, none⟩) zs.length lc) := (World.cell?_of_block (w := W) (w' := wr) (a := ⟨B, 0, none⟩) (hkp B (.inl rfl))).trans hB
    have gc : ∀ j, j < zs.length → wr.cell? ⟨bl, off + j, none⟩ = some (.int .i64 (zs[j]?.getD 0)) := fun j hj => (World.cell?_of_block (w := W) (w' := wr) (a := ⟨bl, off + j, none⟩) (hkp bl (.inr rfl))).trans (hc j hj)
    by_cases hlt : 2 * k < zs.length
    · have hlt' : 2 * (k : Int) < (zs.length : Int) := by omega
      have g0 := gc (2 * k) hlt
      have gA : wr.cell? ⟨bl, off + 2 * k, none⟩ = some (.int .i64 (pA zs k)) := g0
      have hl' : (zs.length : Int) ≤ 24 := by omega
      have hi : (2 * (k : Int)).toNat = 2 * k := by omega
      have hk0 : 0 ≤ 2 * (k : Int) := by omega
      have hBl : B < wr.heap.size := World.block_lt_of_cell? wr _ gB
      have hbl : bl < wr.heap.size := World.block_lt_of_cell? wr _ gA
      by_cases hal : 2 * k + 1 = zs.length
      · have hal' : alone (2 * (k : Int)) (zs.length : Int) = true := by simp [alone]; omega
        gi_wp2
        refine wpIn_wide.2 ?_
        go_region_held3 (fun u => u.cell? ⟨B, 0, none⟩ = some (.slice (some ⟨bl, off, none⟩) zs.length lc) ∧ u.cell? ⟨bl, off + 2 * k, none⟩ = some (.int .i64 (pA zs k))) (simp_all [go_sem]) ((go_at_call 73; refine (aloneAt_any (2 * (k : Int)) zs.length _ (by omega) (by omega) (by omega)).mono ?_; rintro r u ⟨rfl, rfl⟩; rw [hal']))
        all_goals
          have HJ := hJ (upP zs k hk) wr (wr.alloc (.cells #[.int .i64 (pA zs k), .int .i64 0, .bool true] 91)).drew none hJs ⟨rfl, rfl, rfl, (by simp [World.drew]), fun b hb _ => Below.heap_alloc wr _ b hb⟩ (fun r e => by cases e)
          obtain ⟨fn, tmps, assign, body, hy, hR⟩ := hY (upP zs k hk) ⟨k, hlt⟩ _ HJ (by rw [upP_len]; omega)
          have he : encP zs ⟨k, hlt⟩ = #[.int .i64 (k : Int), .agg #[.int .i64 (pA zs k), .int .i64 0, .bool true]] := by simp [encP, pB, pL, hal]
          rw [he] at hy
          clear he HJ hY
          gi_wp2
          refine ⟨fun h => (by cases h), hR.mono ?_⟩
          rintro e W3 (⟨rfl, hJ3, hk3⟩ | ⟨rfl, hJx3⟩)
          · gi_wp2
            go_roundw
            case rel => exact ⟨k + 1, by omega, by go_num, by rw [upP_succ zs k hlt]; exact hJ3, fun b hb => ((hk3 b hb).trans (Below.heap_alloc wr _ b (by rcases hb with rfl | rfl <;> assumption))).trans (hkp b hb)⟩
            case measure => simp [intOf]; omega
          · gi_wp2
            refine bodyPost_ret (results_none rfl _ _ _) rfl ?_
            exact ⟨⟨_, rfl⟩, .inr ⟨_, trivial, hJx3⟩⟩
      · have hal' : alone (2 * (k : Int)) (zs.length : Int) = false := by simp [alone]; omega
        have gB1 : wr.cell? ⟨bl, off + (2 * k + 1), none⟩ = some (.int .i64 (pB zs k)) := by rw [gc (2 * k + 1) (by omega)]; simp [pB, show 2 * k + 1 < zs.length by omega]
        have hi1 : (2 * (k : Int) + 1).toNat = 2 * k + 1 := by omega
        have hlt1 : 2 * (k : Int) + 1 < zs.length := by omega
        gi_wp2
        refine wpIn_wide.2 ?_
        go_region_held3 (fun u => u.cell? ⟨B, 0, none⟩ = some (.slice (some ⟨bl, off, none⟩) zs.length lc) ∧ u.cell? ⟨bl, off + 2 * k, none⟩ = some (.int .i64 (pA zs k))) (simp_all [go_sem]) ((go_at_call 73; refine (aloneAt_any (2 * (k : Int)) zs.length _ (by omega) (by omega) (by omega)).mono ?_; rintro r u ⟨rfl, rfl⟩; rw [hal']))
        all_goals
          have HJ := hJ (upP zs k hk) wr (wr.alloc (.cells #[.int .i64 (pA zs k), .int .i64 (pB zs k), .bool false] 91)).drew none hJs ⟨rfl, rfl, rfl, (by simp [World.drew]), fun b hb _ => Below.heap_alloc wr _ b hb⟩ (fun r e => by cases e)
          obtain ⟨fn, tmps, assign, body, hy, hR⟩ := hY (upP zs k hk) ⟨k, hlt⟩ _ HJ (by rw [upP_len]; omega)
          have he : encP zs ⟨k, hlt⟩ = #[.int .i64 (k : Int), .agg #[.int .i64 (pA zs k), .int .i64 (pB zs k), .bool false]] := by simp [encP, pL, hal]
          rw [he] at hy
          clear he HJ hY
          gi_wp2
          refine ⟨fun h => (by cases h), hR.mono ?_⟩
          rintro e W3 (⟨rfl, hJ3, hk3⟩ | ⟨rfl, hJx3⟩)
          · gi_wp2
            go_roundw
            case rel => exact ⟨k + 1, by omega, by go_num, by rw [upP_succ zs k hlt]; exact hJ3, fun b hb => ((hk3 b hb).trans (Below.heap_alloc wr _ b (by rcases hb with rfl | rfl <;> assumption))).trans (hkp b hb)⟩
            case measure => simp [intOf]; omega
          · gi_wp2
            refine bodyPost_ret (results_none rfl _ _ _) rfl ?_
            exact ⟨⟨_, rfl⟩, .inr ⟨_, trivial, hJx3⟩⟩
    · have hlt' : ¬ 2 * (k : Int) < (zs.length : Int) := by omega
      obtain rfl : k = (zs.length + 1) / 2 := by omega
      gi_wp2
      go_end0
      exact ⟨⟨_, rfl⟩, .inl hJs⟩

/-- The pairs come in order, all of them, or a round has said no more. -/
theorem pairs_stops (n B bl off lc : Nat) (zs : List Int) (hl : zs.length ≤ 24) (h1 : 1 ≤ zs.length) (w : World)
    (hB : w.cell? ⟨B, 0, none⟩ = some (.slice (some ⟨bl, off, none⟩) zs.length lc)) (hc : ∀ j, j < zs.length → w.cell? ⟨bl, off + j, none⟩ = some (.int .i64 (zs[j]?.getD 0))) :
    SeqStopsK Fence.wide n Tryd.prog 72 #[.pointer (some ⟨B, 0, none⟩)] (encP zs) (KpB (fun k => k = B ∨ k = bl)) (fun ys => ys = upP zs ((zs.length + 1) / 2) (by omega)) (fun _ => True) ((zs.length + 1) / 2) w := fun l J Jx W hW hJ _ hY h0 => by
  have hBl : B < w.heap.size := World.block_lt_of_cell? w _ hB
  have hbl : bl < w.heap.size := World.block_lt_of_cell? w _ (hc 0 (by omega))
  exact pairs1_in n l B bl off lc zs hl h1 J Jx W hJ hY ((hW.cell (p := ⟨B, 0, none⟩) hBl).trans hB) (fun j hj => (hW.cell (p := ⟨bl, off + j, none⟩) hbl).trans (hc j hj)) h0

end Go.Proofs.YtlmjppglaolccaaDoor
