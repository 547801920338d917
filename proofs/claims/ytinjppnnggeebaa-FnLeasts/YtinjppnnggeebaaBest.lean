/- Contracts: LeastOf and MostOf of the program and of the model. -/
import Derived.Test.YtinjppnnggeebaaAhead
import Derived.Test.YtinjppnnggeebaaInts
namespace Go.Proofs.Ytinjppnnggeebaa
open Go.ChangeShapes Go.WideShapes Go.ChangeAt Go.RowKit
set_option linter.unusedVariables false

def better (m : Bool) (x b : Int) : Bool := if m then aheadB b x else aheadB x b
def step (m : Bool) (s : Option Int) (x : Int) : Option Int := if nanB x = true then s else match s with | none => some x | some b => if better m x b = true then some x else some b
def best (m : Bool) (zs : List Int) : Option Int := zs.foldl (step m) none
def bestCode (m : Bool) (zs : List Int) : Int := if 40 < zs.length then 2 else match best m zs with | none => 4 | some _ => 0
def bestVal (m : Bool) (zs : List Int) : Int := if 40 < zs.length then 0 else match best m zs with | none => 0 | some b => b

theorem best_succ (m : Bool) (zs : List Int) (k : Nat) (h : k < zs.length) : best m (zs.take (k + 1)) = step m (best m (zs.take k)) zs[k] := by
  unfold best; rw [List.take_succ_eq_append_getElem h, List.foldl_append]; rfl
theorem best_mem (m : Bool) (zs : List Int) (b : Int) (h : best m zs = some b) : b ∈ zs := by
  unfold best at h
  have : ∀ (l : List Int) (s : Option Int), l.foldl (step m) s = some b → b ∈ l ∨ s = some b := by
    intro l
    induction l with
    | nil => intro s hs; exact .inr hs
    | cons x l ih =>
      intro s hs
      rcases ih _ hs with h1 | h1
      · exact .inl (List.mem_cons_of_mem _ h1)
      · unfold step at h1
        split at h1
        · exact .inr h1
        · split at h1
          · simp at h1; exact .inl (by simp [h1])
          · split at h1
            · simp at h1; exact .inl (by simp [h1])
            · exact .inr h1
  rcases this zs none h with h1 | h1
  · exact h1
  · cases h1
theorem step_nan {m : Bool} {s : Option Int} {x : Int} (h : nanB x = true) : step m s x = s := by unfold step; rw [if_pos h]
theorem step_none {m : Bool} {x : Int} (h : nanB x = false) : step m none x = some x := by unfold step; rw [if_neg (by simp [h])]
theorem step_yes {m : Bool} {b x : Int} (h : nanB x = false) (h2 : better m x b = true) : step m (some b) x = some x := by unfold step; rw [if_neg (by simp [h])]; simp [h2]
theorem step_no {m : Bool} {b x : Int} (h : nanB x = false) (h2 : better m x b = false) : step m (some b) x = some b := by unfold step; rw [if_neg (by simp [h])]; simp [h2]
theorem kd_nan {x : Int} : (kd x == 3) = nanB x := by
  unfold kd nanB
  by_cases h : 9218868437227405312 < sz x
  · rw [if_pos h]; simp [h]
  · rw [if_neg h]
    split
    · simp; omega
    · split <;> (simp; omega)

theorem set2 {w1 : World} {B : Nat} {v0 v1 u0 u1 : Value} (h0 : w1.cell? ⟨B, 0, none⟩ = some v0) (h1 : w1.cell? ⟨B, 1, none⟩ = some v1) :
    ((w1.setCell ⟨B, 0, none⟩ u0).setCell ⟨B, 1, none⟩ u1).cell? ⟨B, 0, none⟩ = some u0 ∧ ((w1.setCell ⟨B, 0, none⟩ u0).setCell ⟨B, 1, none⟩ u1).cell? ⟨B, 1, none⟩ = some u1 ∧
    ((w1.setCell ⟨B, 0, none⟩ u0).setCell ⟨B, 1, none⟩ u1).frozen? ⟨B, 0, none⟩ = w1.frozen? ⟨B, 0, none⟩ ∧ ((w1.setCell ⟨B, 0, none⟩ u0).setCell ⟨B, 1, none⟩ u1).frozen? ⟨B, 1, none⟩ = w1.frozen? ⟨B, 1, none⟩ := by
  refine ⟨?_, ?_, ?_, ?_⟩ <;> simp [go_sem, h0, h1]

theorem kind_fld (k e t : Int) (m : Bool) (w : World) : (Instr.field 26 (.agg #[.int .i64 k, .bool m, .int .i64 e, .int .i64 t]) 0).run Try.prog w = .ok (.int .i64 k) w := by kernel_rfl

/-- The two cells of the best one so far. -/
def cells2 (s : Option Int) : Int × Int := match s with | none => (4, 0) | some b => (0, b)

theorem cell_keep {w wr : World} {O : Obj} {b o : Nat} (hbel : Below (w.heap.size + 1) (w.alloc O) wr) (hb : b < w.heap.size) : wr.cell? ⟨b, o, none⟩ = w.cell? ⟨b, o, none⟩ :=
  (hbel.cell (p := ⟨b, o, none⟩) (by show b < _; omega)).trans (((Below.refl w.heap.size w).alloc (Nat.le_refl _) _).cell (p := ⟨b, o, none⟩) hb)
theorem res_keep {w wr : World} {x y : Value} {T : Nat} (hbel : Below (w.heap.size + 1) (w.alloc (.cells #[x, y] T)) wr) :
    wr.cell? ⟨w.heap.size, 0, none⟩ = some x ∧ wr.cell? ⟨w.heap.size, 1, none⟩ = some y ∧ wr.frozen? ⟨w.heap.size, 0, none⟩ = false ∧ wr.frozen? ⟨w.heap.size, 1, none⟩ = false :=
  ⟨(hbel.cell (p := ⟨w.heap.size, 0, none⟩) (Nat.lt_succ_self _)).trans (by simp [go_sem]), (hbel.cell (p := ⟨w.heap.size, 1, none⟩) (Nat.lt_succ_self _)).trans (by simp [go_sem]), (hbel.frozen (p := ⟨w.heap.size, 0, none⟩) (Nat.lt_succ_self _)).trans (by simp [go_sem]), (hbel.frozen (p := ⟨w.heap.size, 1, none⟩) (Nat.lt_succ_self _)).trans (by simp [go_sem])⟩

theorem behind_impl (a b : Int) (w : World) (a0 : -9223372036854775808 ≤ a) (a1 : a ≤ 9223372036854775807) (b0 : -9223372036854775808 ≤ b) (b1 : b ≤ 9223372036854775807) :
    Calls Try.prog 41 #[.int .i64 a, .int .i64 b] w fun r w' => r = .returned (.bool (aheadB b a)) ∧ Below w.heap.size w w' := by
  go_enter Try.func41, Try.ntmps41
  go_wp2_with (go_at_call 19; refine (ahead_impl b a _ b0 b1 a0 a1).mono ?_; rintro r w1 ⟨rfl, hb1⟩)
  go_ret
  exact ⟨rfl, hb1⟩

set_option maxHeartbeats 4000000 in
theorem first_least (a : Option Addr) (cap : Nat) (zs : List Int) (w : World) (h : Has w .i64 a zs.length zs) :
    Calls Try.prog 40 #[.slice a zs.length cap, .func (.func 19) #[] #[]] w fun r w' => r = .returned (.agg #[.int .i64 (bestCode false zs), .int .i64 (bestVal false zs)]) ∧ Below w.heap.size w w' := by
  obtain ⟨_, hwf, hc⟩ := h
  by_cases hm : 40 < zs.length
  · have e1 : bestCode false zs = 2 := by unfold bestCode; rw [if_pos hm]
    have e2 : bestVal false zs = 0 := by unfold bestVal; rw [if_pos hm]
    rw [e1, e2]
    clear e1 e2 hc
    have hm' : (40 : Int) < (zs.length : Int) := by omega
    go_enter Try.func40, Try.ntmps40
    go_wp2
    refine bodyPost_ret (v := .agg #[.int .i64 2, .int .i64 0]) (by simp [results, Try.results40, go_sem]) rfl ⟨rfl, ?_⟩
    repeat (first | exact Below.refl _ _ | refine Below.alloc ?_ (by (try simp) <;> omega) _ | refine Below.setCell ?_ (by (try simp) <;> omega) _)
  · have e1 : bestCode false zs = (cells2 (best false zs)).1 := by unfold bestCode cells2; rw [if_neg hm]; cases best false zs <;> rfl
    have e2 : bestVal false zs = (cells2 (best false zs)).2 := by unfold bestVal cells2; rw [if_neg hm]; cases best false zs <;> rfl
    rw [e1, e2]
    clear e1 e2
    have hm' : (zs.length : Int) ≤ 40 := by omega
    have hd : decide ((40 : Int) < (zs.length : Int)) = false := by simp; omega
    rcases hc with h0 | ⟨b, off, rfl, hb, hcell⟩
    · obtain rfl : zs = [] := List.eq_nil_of_length_eq_zero h0
      clear h0 hm hm' hd
      have ee : best false [] = none := rfl
      rw [ee]
      simp only [List.length_nil]
      go_enter Try.func40, Try.ntmps40
      go_wp2
      refine wp_loop_rounds 1 ?_
      rw [rounds_succ]
      go_wp2
      refine bodyPost_ret (v := .agg #[.int .i64 4, .int .i64 0]) (by simp [results, Try.results40, go_sem]) rfl ⟨rfl, ?_⟩
      repeat (first | exact Below.refl _ _ | refine Below.alloc ?_ (by (try simp) <;> omega) _ | refine Below.setCell ?_ (by (try simp) <;> omega) _)
    · have hbest : best false (zs.take zs.length) = best false zs := by rw [List.take_length]
      have HB : Hid (_) := hbest
      clear hbest
      go_enter Try.func40, Try.ntmps40
      go_wp2
      go_loopw [15] (fun i wr => ∃ k : Nat, k ≤ zs.length ∧ i = .int .i64 k ∧ wr.cell? ⟨w.heap.size + 1, 0, none⟩ = some (.int .i64 (cells2 (best false (zs.take k))).1) ∧ wr.cell? ⟨w.heap.size + 1, 1, none⟩ = some (.int .i64 (cells2 (best false (zs.take k))).2) ∧ wr.frozen? ⟨w.heap.size + 1, 0, none⟩ = false ∧ wr.frozen? ⟨w.heap.size + 1, 1, none⟩ = false ∧ w.heap.size + 1 < wr.heap.size ∧ Below (w.heap.size + 1) (w.alloc (.cells #[.int .i64 0, .int .i64 0] 29)) wr) (fun i _ => zs.length - (intOf i).toNat)
      case atStart => exact ⟨0, Nat.zero_le _, rfl, by simp [go_sem, best, cells2], by simp [go_sem, best, cells2], by simp [go_sem], by simp [go_sem], by simp, (Below.refl _ _).alloc (by simp) _⟩
      case round =>
        obtain ⟨k, hk, rfl, hq0, hq1, hg0, hg1, hsz, hbel⟩ := hrel
        by_cases hlt : k < zs.length
        · have hx : wr.cell? ⟨b, off + k, none⟩ = some (.int .i64 zs[k]) := (cell_keep hbel hb).trans (by rw [hcell k hlt]; simp [List.getD, hlt])
          have hbd := bounds_i64 (hwf zs[k] (List.getElem_mem hlt))
          have hS := best_succ false zs k hlt
          have hlt' : (k : Int) < (zs.length : Int) := by omega
          have hkf := kind_fld
          have hkn := kd_nan (x := zs[k])
          have hsz' : w.heap.size < wr.heap.size := by omega
          have hmem := best_mem false (zs.take k)
          cases hs : best false (zs.take k) with
          | none =>
            rw [hs] at hq0 hq1 hS
            simp only [cells2] at hq0 hq1
            by_cases hn : nanB zs[k] = true
            · rw [step_nan hn] at hS
              rw [hn] at hkn
              have HS : Hid (_) := hS
              clear hS hs hmem
              go_wp2_with (go_at_call 8; refine (parts_impl _ _ hbd.1 hbd.2).mono ?_; rintro r u1 ⟨rfl, hb1⟩; obtain ⟨hc1, hf1⟩ := bcell hb1; have hz1 := hb1.size)
              go_roundw
              case rel => exact ⟨k + 1, by omega, by go_num, by rw [HS.out, hc1 _ _ hsz]; exact hq0, by rw [HS.out, hc1 _ _ hsz]; exact hq1, by rw [hf1 _ _ hsz]; exact hg0, by rw [hf1 _ _ hsz]; exact hg1, by omega, hbel.trans (hb1.mono (by omega))⟩
              case measure => simp [intOf]; omega
            · have hn' : nanB zs[k] = false := by simpa using hn
              rw [step_none hn'] at hS
              rw [hn'] at hkn
              have HS : Hid (_) := hS
              clear hS hs hmem hn
              go_wp2_with (go_at_call 8; refine (parts_impl _ _ hbd.1 hbd.2).mono ?_; rintro r u1 ⟨rfl, hb1⟩; obtain ⟨hc1, hf1⟩ := bcell hb1; have hz1 := hb1.size)
              go_roundw
              case rel =>
                have q0 := (hc1 _ 0 hsz).trans hq0
                have q1 := (hc1 _ 1 hsz).trans hq1
                have s2 := set2 (u0 := .int .i64 0) (u1 := .int .i64 zs[k]) q0 q1
                exact ⟨k + 1, by omega, by go_num, by rw [HS.out]; exact s2.1, by rw [HS.out]; exact s2.2.1, s2.2.2.1.trans ((hf1 _ _ hsz).trans hg0), s2.2.2.2.trans ((hf1 _ _ hsz).trans hg1), by simp; omega, ((hbel.trans (hb1.mono (by omega))).setCell (by simp) _).setCell (by simp) _⟩
              case measure => simp [intOf]; omega
          | some c =>
            rw [hs] at hq0 hq1 hS hmem
            simp only [cells2] at hq0 hq1
            have hcd := bounds_i64 (hwf c (List.mem_of_mem_take (hmem c rfl)))
            by_cases hn : nanB zs[k] = true
            · rw [step_nan hn] at hS
              rw [hn] at hkn
              have HS : Hid (_) := hS
              clear hS hs hmem
              go_wp2_with (go_at_call 8; refine (parts_impl _ _ hbd.1 hbd.2).mono ?_; rintro r u1 ⟨rfl, hb1⟩; obtain ⟨hc1, hf1⟩ := bcell hb1; have hz1 := hb1.size)
              go_roundw
              case rel => exact ⟨k + 1, by omega, by go_num, by rw [HS.out, hc1 _ _ hsz]; exact hq0, by rw [HS.out, hc1 _ _ hsz]; exact hq1, by rw [hf1 _ _ hsz]; exact hg0, by rw [hf1 _ _ hsz]; exact hg1, by omega, hbel.trans (hb1.mono (by omega))⟩
              case measure => simp [intOf]; omega
            · have hn' : nanB zs[k] = false := by simpa using hn
              rw [hn'] at hkn
              by_cases hy : better false zs[k] c = true
              · rw [step_yes hn' hy] at hS
                have HS : Hid (_) := hS
                have hya : aheadB zs[k] c = true := hy
                clear hS hs hmem hn hy
                go_wp2_with (first | (go_at_call 8; refine (parts_impl _ _ hbd.1 hbd.2).mono ?_; rintro r u1 ⟨rfl, hb1⟩; obtain ⟨hc1, hf1⟩ := bcell hb1; have hz1 := hb1.size) | (go_at_call 19; refine (ahead_impl _ _ _ hbd.1 hbd.2 hcd.1 hcd.2).mono ?_; rintro r u2 ⟨rfl, hb2⟩; have hbb := hb1.trans (hb2.mono hb1.size); obtain ⟨hc2, hf2⟩ := bcell hbb; have hz2 := hbb.size))
                go_roundw
                case rel =>
                  have q0 := (hc2 _ 0 hsz).trans hq0
                  have q1 := (hc2 _ 1 hsz).trans hq1
                  have s2 := set2 (u0 := .int .i64 0) (u1 := .int .i64 zs[k]) q0 q1
                  exact ⟨k + 1, by omega, by go_num, by rw [HS.out]; exact s2.1, by rw [HS.out]; exact s2.2.1, s2.2.2.1.trans ((hf2 _ _ hsz).trans hg0), s2.2.2.2.trans ((hf2 _ _ hsz).trans hg1), by simp; omega, ((hbel.trans (hbb.mono (by omega))).setCell (by simp) _).setCell (by simp) _⟩
                case measure => simp [intOf]; omega
              · have hy' : better false zs[k] c = false := by simpa using hy
                rw [step_no hn' hy'] at hS
                have HS : Hid (_) := hS
                have hya : aheadB zs[k] c = false := hy'
                clear hS hs hmem hn hy hy'
                go_wp2_with (first | (go_at_call 8; refine (parts_impl _ _ hbd.1 hbd.2).mono ?_; rintro r u1 ⟨rfl, hb1⟩; obtain ⟨hc1, hf1⟩ := bcell hb1; have hz1 := hb1.size) | (go_at_call 19; refine (ahead_impl _ _ _ hbd.1 hbd.2 hcd.1 hcd.2).mono ?_; rintro r u2 ⟨rfl, hb2⟩; have hbb := hb1.trans (hb2.mono hb1.size); obtain ⟨hc2, hf2⟩ := bcell hbb; have hz2 := hbb.size))
                go_roundw
                case rel => exact ⟨k + 1, by omega, by go_num, by rw [HS.out, hc2 _ _ hsz]; exact hq0, by rw [HS.out, hc2 _ _ hsz]; exact hq1, by rw [hf2 _ _ hsz]; exact hg0, by rw [hf2 _ _ hsz]; exact hg1, by omega, hbel.trans (hbb.mono (by omega))⟩
                case measure => simp [intOf]; omega
        · have hkk : k = zs.length := by omega
          have HK : Hid (k = zs.length) := hkk
          clear hkk
          obtain ⟨hr0, hr1, hr2, hr3⟩ := res_keep hbel
          go_wp2
          refine bodyPost_ret (v := .agg #[.int .i64 (cells2 (best false (zs.take k))).1, .int .i64 (cells2 (best false (zs.take k))).2]) (by simp [results, Try.results40, go_sem, hr0, hr1]) rfl ⟨by rw [HK.out, HB.out], ?_⟩
          exact ((((Below.refl _ _).alloc (Nat.le_refl _) _).trans (hbel.mono (by omega))).setCell (by simp) _).setCell (by simp) _

set_option maxHeartbeats 4000000 in
theorem first_most (a : Option Addr) (cap : Nat) (zs : List Int) (w : World) (h : Has w .i64 a zs.length zs) :
    Calls Try.prog 40 #[.slice a zs.length cap, .func (.func 41) #[] #[]] w fun r w' => r = .returned (.agg #[.int .i64 (bestCode true zs), .int .i64 (bestVal true zs)]) ∧ Below w.heap.size w w' := by
  obtain ⟨_, hwf, hc⟩ := h
  by_cases hm : 40 < zs.length
  · have e1 : bestCode true zs = 2 := by unfold bestCode; rw [if_pos hm]
    have e2 : bestVal true zs = 0 := by unfold bestVal; rw [if_pos hm]
    rw [e1, e2]
    clear e1 e2 hc
    have hm' : (40 : Int) < (zs.length : Int) := by omega
    go_enter Try.func40, Try.ntmps40
    go_wp2
    refine bodyPost_ret (v := .agg #[.int .i64 2, .int .i64 0]) (by simp [results, Try.results40, go_sem]) rfl ⟨rfl, ?_⟩
    repeat (first | exact Below.refl _ _ | refine Below.alloc ?_ (by (try simp) <;> omega) _ | refine Below.setCell ?_ (by (try simp) <;> omega) _)
  · have e1 : bestCode true zs = (cells2 (best true zs)).1 := by unfold bestCode cells2; rw [if_neg hm]; cases best true zs <;> rfl
    have e2 : bestVal true zs = (cells2 (best true zs)).2 := by unfold bestVal cells2; rw [if_neg hm]; cases best true zs <;> rfl
    rw [e1, e2]
    clear e1 e2
    have hm' : (zs.length : Int) ≤ 40 := by omega
    have hd : decide ((40 : Int) < (zs.length : Int)) = false := by simp; omega
    rcases hc with h0 | ⟨b, off, rfl, hb, hcell⟩
    · obtain rfl : zs = [] := List.eq_nil_of_length_eq_zero h0
      clear h0 hm hm' hd
      have ee : best true [] = none := rfl
      rw [ee]
      simp only [List.length_nil]
      go_enter Try.func40, Try.ntmps40
      go_wp2
      refine wp_loop_rounds 1 ?_
      rw [rounds_succ]
      go_wp2
      refine bodyPost_ret (v := .agg #[.int .i64 4, .int .i64 0]) (by simp [results, Try.results40, go_sem]) rfl ⟨rfl, ?_⟩
      repeat (first | exact Below.refl _ _ | refine Below.alloc ?_ (by (try simp) <;> omega) _ | refine Below.setCell ?_ (by (try simp) <;> omega) _)
    · have hbest : best true (zs.take zs.length) = best true zs := by rw [List.take_length]
      have HB : Hid (_) := hbest
      clear hbest
      go_enter Try.func40, Try.ntmps40
      go_wp2
      go_loopw [15] (fun i wr => ∃ k : Nat, k ≤ zs.length ∧ i = .int .i64 k ∧ wr.cell? ⟨w.heap.size + 1, 0, none⟩ = some (.int .i64 (cells2 (best true (zs.take k))).1) ∧ wr.cell? ⟨w.heap.size + 1, 1, none⟩ = some (.int .i64 (cells2 (best true (zs.take k))).2) ∧ wr.frozen? ⟨w.heap.size + 1, 0, none⟩ = false ∧ wr.frozen? ⟨w.heap.size + 1, 1, none⟩ = false ∧ w.heap.size + 1 < wr.heap.size ∧ Below (w.heap.size + 1) (w.alloc (.cells #[.int .i64 0, .int .i64 0] 29)) wr) (fun i _ => zs.length - (intOf i).toNat)
      case atStart => exact ⟨0, Nat.zero_le _, rfl, by simp [go_sem, best, cells2], by simp [go_sem, best, cells2], by simp [go_sem], by simp [go_sem], by simp, (Below.refl _ _).alloc (by simp) _⟩
      case round =>
        obtain ⟨k, hk, rfl, hq0, hq1, hg0, hg1, hsz, hbel⟩ := hrel
        by_cases hlt : k < zs.length
        · have hx : wr.cell? ⟨b, off + k, none⟩ = some (.int .i64 zs[k]) := (cell_keep hbel hb).trans (by rw [hcell k hlt]; simp [List.getD, hlt])
          have hbd := bounds_i64 (hwf zs[k] (List.getElem_mem hlt))
          have hS := best_succ true zs k hlt
          have hlt' : (k : Int) < (zs.length : Int) := by omega
          have hkf := kind_fld
          have hkn := kd_nan (x := zs[k])
          have hsz' : w.heap.size < wr.heap.size := by omega
          have hmem := best_mem true (zs.take k)
          cases hs : best true (zs.take k) with
          | none =>
            rw [hs] at hq0 hq1 hS
            simp only [cells2] at hq0 hq1
            by_cases hn : nanB zs[k] = true
            · rw [step_nan hn] at hS
              rw [hn] at hkn
              have HS : Hid (_) := hS
              clear hS hs hmem
              go_wp2_with (go_at_call 8; refine (parts_impl _ _ hbd.1 hbd.2).mono ?_; rintro r u1 ⟨rfl, hb1⟩; obtain ⟨hc1, hf1⟩ := bcell hb1; have hz1 := hb1.size)
              go_roundw
              case rel => exact ⟨k + 1, by omega, by go_num, by rw [HS.out, hc1 _ _ hsz]; exact hq0, by rw [HS.out, hc1 _ _ hsz]; exact hq1, by rw [hf1 _ _ hsz]; exact hg0, by rw [hf1 _ _ hsz]; exact hg1, by omega, hbel.trans (hb1.mono (by omega))⟩
              case measure => simp [intOf]; omega
            · have hn' : nanB zs[k] = false := by simpa using hn
              rw [step_none hn'] at hS
              rw [hn'] at hkn
              have HS : Hid (_) := hS
              clear hS hs hmem hn
              go_wp2_with (go_at_call 8; refine (parts_impl _ _ hbd.1 hbd.2).mono ?_; rintro r u1 ⟨rfl, hb1⟩; obtain ⟨hc1, hf1⟩ := bcell hb1; have hz1 := hb1.size)
              go_roundw
              case rel =>
                have q0 := (hc1 _ 0 hsz).trans hq0
                have q1 := (hc1 _ 1 hsz).trans hq1
                have s2 := set2 (u0 := .int .i64 0) (u1 := .int .i64 zs[k]) q0 q1
                exact ⟨k + 1, by omega, by go_num, by rw [HS.out]; exact s2.1, by rw [HS.out]; exact s2.2.1, s2.2.2.1.trans ((hf1 _ _ hsz).trans hg0), s2.2.2.2.trans ((hf1 _ _ hsz).trans hg1), by simp; omega, ((hbel.trans (hb1.mono (by omega))).setCell (by simp) _).setCell (by simp) _⟩
              case measure => simp [intOf]; omega
          | some c =>
            rw [hs] at hq0 hq1 hS hmem
            simp only [cells2] at hq0 hq1
            have hcd := bounds_i64 (hwf c (List.mem_of_mem_take (hmem c rfl)))
            by_cases hn : nanB zs[k] = true
            · rw [step_nan hn] at hS
              rw [hn] at hkn
              have HS : Hid (_) := hS
              clear hS hs hmem
              go_wp2_with (go_at_call 8; refine (parts_impl _ _ hbd.1 hbd.2).mono ?_; rintro r u1 ⟨rfl, hb1⟩; obtain ⟨hc1, hf1⟩ := bcell hb1; have hz1 := hb1.size)
              go_roundw
              case rel => exact ⟨k + 1, by omega, by go_num, by rw [HS.out, hc1 _ _ hsz]; exact hq0, by rw [HS.out, hc1 _ _ hsz]; exact hq1, by rw [hf1 _ _ hsz]; exact hg0, by rw [hf1 _ _ hsz]; exact hg1, by omega, hbel.trans (hb1.mono (by omega))⟩
              case measure => simp [intOf]; omega
            · have hn' : nanB zs[k] = false := by simpa using hn
              rw [hn'] at hkn
              by_cases hy : better true zs[k] c = true
              · rw [step_yes hn' hy] at hS
                have HS : Hid (_) := hS
                have hya : aheadB c zs[k] = true := hy
                clear hS hs hmem hn hy
                go_wp2_with (first | (go_at_call 8; refine (parts_impl _ _ hbd.1 hbd.2).mono ?_; rintro r u1 ⟨rfl, hb1⟩; obtain ⟨hc1, hf1⟩ := bcell hb1; have hz1 := hb1.size) | (go_at_call 41; refine (behind_impl _ _ _ hbd.1 hbd.2 hcd.1 hcd.2).mono ?_; rintro r u2 ⟨rfl, hb2⟩; have hbb := hb1.trans (hb2.mono hb1.size); obtain ⟨hc2, hf2⟩ := bcell hbb; have hz2 := hbb.size))
                go_roundw
                case rel =>
                  have q0 := (hc2 _ 0 hsz).trans hq0
                  have q1 := (hc2 _ 1 hsz).trans hq1
                  have s2 := set2 (u0 := .int .i64 0) (u1 := .int .i64 zs[k]) q0 q1
                  exact ⟨k + 1, by omega, by go_num, by rw [HS.out]; exact s2.1, by rw [HS.out]; exact s2.2.1, s2.2.2.1.trans ((hf2 _ _ hsz).trans hg0), s2.2.2.2.trans ((hf2 _ _ hsz).trans hg1), by simp; omega, ((hbel.trans (hbb.mono (by omega))).setCell (by simp) _).setCell (by simp) _⟩
                case measure => simp [intOf]; omega
              · have hy' : better true zs[k] c = false := by simpa using hy
                rw [step_no hn' hy'] at hS
                have HS : Hid (_) := hS
                have hya : aheadB c zs[k] = false := hy'
                clear hS hs hmem hn hy hy'
                go_wp2_with (first | (go_at_call 8; refine (parts_impl _ _ hbd.1 hbd.2).mono ?_; rintro r u1 ⟨rfl, hb1⟩; obtain ⟨hc1, hf1⟩ := bcell hb1; have hz1 := hb1.size) | (go_at_call 41; refine (behind_impl _ _ _ hbd.1 hbd.2 hcd.1 hcd.2).mono ?_; rintro r u2 ⟨rfl, hb2⟩; have hbb := hb1.trans (hb2.mono hb1.size); obtain ⟨hc2, hf2⟩ := bcell hbb; have hz2 := hbb.size))
                go_roundw
                case rel => exact ⟨k + 1, by omega, by go_num, by rw [HS.out, hc2 _ _ hsz]; exact hq0, by rw [HS.out, hc2 _ _ hsz]; exact hq1, by rw [hf2 _ _ hsz]; exact hg0, by rw [hf2 _ _ hsz]; exact hg1, by omega, hbel.trans (hbb.mono (by omega))⟩
                case measure => simp [intOf]; omega
        · have hkk : k = zs.length := by omega
          have HK : Hid (k = zs.length) := hkk
          clear hkk
          obtain ⟨hr0, hr1, hr2, hr3⟩ := res_keep hbel
          go_wp2
          refine bodyPost_ret (v := .agg #[.int .i64 (cells2 (best true (zs.take k))).1, .int .i64 (cells2 (best true (zs.take k))).2]) (by simp [results, Try.results40, go_sem, hr0, hr1]) rfl ⟨by rw [HK.out, HB.out], ?_⟩
          exact ((((Below.refl _ _).alloc (Nat.le_refl _) _).trans (hbel.mono (by omega))).setCell (by simp) _).setCell (by simp) _

end Go.Proofs.Ytinjppnnggeebaa
