/- Contracts: lists of pieces marked by the laws; clash results compared, marked, and asked for their marks. -/
import Derived.Test.YtklhkhlmhddmcaaDoorPcsC
import Derived.Test.YtklhkhlmhddmcaaDoorLvl
import Derived.Test.YtklhkhlmhddmcaaDoorMarkI
namespace Go.Proofs.YtklhkhlmhddmcaaDoor
open Go.ChangeShapes Go.WideShapes Go.ChangeAt Go.RowKit
set_option linter.unusedVariables false
set_option linter.unusedSimpArgs false

theorem own_at {w w' : World} {base e n x c : Nat} {xs : List Value} (h : w.ownsRow base e 1 (.slice (some ⟨x, 0, none⟩) n c) n xs) (hx : w'.heap[x]? = w.heap[x]?) : w'.ownsRow base e 1 (.slice (some ⟨x, 0, none⟩) n c) n xs := by
  refine ⟨h.1, h.2.imp id ?_⟩
  rintro ⟨g, cap, cur, e1, e2, e3, e4⟩
  have e5 := e1
  simp at e5
  exact ⟨g, cap, cur, e1, e2, by rw [← e5.1, hx, e5.1]; exact e3, e4⟩
theorem Fr.marked {M : Nat → Prop} {a : Option Addr} {w w' w'' : World} (h : Fr M w w') (k : Mk a w' w'') (hM : ∀ ad, a = some ad → M ad.block) : Fr M w w'' :=
  ⟨k.os.trans h.os, k.tape.trans h.tape, k.output.trans h.output, by rw [k.size]; exact h.size, fun i hi hn => (k.block i (fun ad had e => hn (by rw [e]; exact hM ad had))).trans (h.block i hi hn)⟩

set_option maxHeartbeats 2000000 in
theorem markByteSS_any (base g : Nat) (rs : List Pc) (gs : List Nat) (k : Int) (w : World) (h : OwnP w base g rs gs) (hl : gs.length = rs.length) (hlen : rs.length ≤ 1048576) (hz : sumZ rs ≤ 1048576) (k0 : 0 ≤ k) (k1 : k ≤ 1048576) :
    Calls Tryd.prog 42 #[.slice (some ⟨g, 0, none⟩) rs.length rs.length, .int .i64 k] w fun r w' => r = .returned (.int .i64 (k + sumZ rs)) ∧ Fr (fun b => b ∈ gs) w w' ∧ w'.heap.size = w.heap.size := by
  have hgl := (h.out.lt g rfl).2
  have hcell : ∀ i (hi : i < rs.length), w.cell? ⟨g, i, none⟩ = some (.slice (some ⟨gs[i]'(by omega), 0, none⟩) (rs[i]).zs.length (rs[i]).zs.length) := by
    intro i hi
    rw [h.out.cellAt i (by omega)]
    unfold partR
    rw [List.getElem?_append_left (by simp; omega), List.getElem?_eq_getElem (by simp; omega), List.getElem_zipWith]
  have hgn : g ∉ gs := fun hm => by have := h.up g hm; omega
  go_enter Tryd.func42, Tryd.ntmps42
  go_wp2
  go_loopw [1, 5] (fun l i wr => ∃ j : Nat, j ≤ rs.length ∧ l = .int .i64 (k + sumZ (rs.take j)) ∧ i = .int .i64 j ∧ Fr (fun b => b ∈ gs) w wr ∧ wr.heap.size = w.heap.size ∧ ∀ i (h1 : i < gs.length) (h2 : i < rs.length), j ≤ i → wr.ownsRow base 5 1 (.slice (some ⟨gs[i], 0, none⟩) (rs[i]).zs.length (rs[i]).zs.length) (rs[i]).zs.length ((rs[i]).zs.map (.int .u8))) (fun _ i _ => rs.length - (intOf i).toNat)
  case atStart => exact ⟨0, Nat.zero_le _, by simp [sumZ], rfl, Fr.refl _ _, rfl, fun i h1 h2 _ => h.row i h1 h2⟩
  case round =>
    obtain ⟨j, hj, rfl, rfl, hfr, hsz, hrow⟩ := hrel
    have hle := sumZ_le rs j
    by_cases hlt : j < rs.length
    · have hlt' : (j : Int) < (rs.length : Int) := by omega
      have hs := sumZ_succ hlt
      have hle2 := sumZ_le rs (j + 1)
      have e1 : wr.cell? ⟨g, j, none⟩ = some (.slice (some ⟨gs[j]'(by omega), 0, none⟩) (rs[j]).zs.length (rs[j]).zs.length) := by
        have hb : wr.heap[g]? = w.heap[g]? := hfr.block g hgl hgn
        have := hcell j hlt
        simpa [World.cell?, hb] using this
      have hj2 : j < gs.length := by omega
      have MB : Hid (Calls Tryd.prog 43 #[.slice (some ⟨gs[j], 0, none⟩) (rs[j]).zs.length (rs[j]).zs.length, .int .i64 (k + sumZ (rs.take j))] wr fun r w' => r = .returned (.int .i64 (k + sumZ (rs.take (j + 1)))) ∧ Mk (some ⟨gs[j], 0, none⟩) wr w') := by
        refine (markByteS_any base (some ⟨gs[j], 0, none⟩) (rs[j]).zs.length (k + sumZ (rs.take j)) (rs[j]).zs wr (hrow j hj2 hlt (Nat.le_refl _)) (by omega) (by omega) (by omega)).mono ?_
        rintro r w' ⟨rfl, _, hm⟩
        exact ⟨ret_int (by rw [hs]; omega), hm⟩
      have NX : Hid (∀ w' : World, Mk (some ⟨gs[j], 0, none⟩) wr w' → Fr (fun b => b ∈ gs) w w' ∧ w'.heap.size = w.heap.size ∧ ∀ i (h1 : i < gs.length) (h2 : i < rs.length), j + 1 ≤ i → w'.ownsRow base 5 1 (.slice (some ⟨gs[i], 0, none⟩) (rs[i]).zs.length (rs[i]).zs.length) (rs[i]).zs.length ((rs[i]).zs.map (.int .u8))) := by
        intro w' hm
        refine ⟨hfr.marked hm (fun ad had => by simp at had; subst had; exact List.getElem_mem hj2), hm.size.trans hsz, fun i h1 h2 h3 => own_at (hrow i h1 h2 (by omega)) (hm.block _ (fun ad had => by simp at had; subst had; show gs[i] ≠ gs[j]; have := List.pairwise_iff_getElem.1 h.ord j i hj2 h1 (by omega); omega))⟩
      generalize sumZ (rs.take j) = S0 at *
      obtain ⟨S1, hS1⟩ : ∃ S, sumZ (rs.take (j + 1)) = S := ⟨_, rfl⟩
      rw [hS1] at MB hle2
      have HS1 : Hid (sumZ (rs.take (j + 1)) = S1) := hS1
      clear hS1 hs hrow hfr hcell
      go_wp2_with fail
      refine MB.out.mono ?_
      rintro r u ⟨rfl, hm⟩
      obtain ⟨n1, n2, n3⟩ := NX.out u hm
      have N3 : Hid (∀ i (h1 : i < gs.length) (h2 : i < rs.length), j + 1 ≤ i → u.ownsRow base 5 1 (.slice (some ⟨gs[i], 0, none⟩) (rs[i]).zs.length (rs[i]).zs.length) (rs[i]).zs.length ((rs[i]).zs.map (.int .u8))) := n3
      clear n3 NX MB e1
      go_wp2
      go_roundw
      case rel => exact ⟨j + 1, by omega, by rw [HS1.out], by go_num, n1, n2, N3.out⟩
      case measure => simp [intOf]; omega
    · have HK : Hid (sumZ (rs.take j) = sumZ rs) := by
        show _ = _
        rw [show j = rs.length by omega, List.take_length]
      go_wp2
      go_ret
      exact ⟨ret_int (by rw [HK.out]), hfr, hsz⟩

/-- A clash result in memory of its own. -/
structure OwnC (w : World) (base : Nat) (a1 a2 : Option Addr) (c1 c2 : Nat) (xs ys : List Int) : Prop where
  one : w.ownsRow base 5 1 (.slice a1 xs.length c1) xs.length (xs.map (.int .u8))
  two : w.ownsRow base 5 1 (.slice a2 ys.length c2) ys.length (ys.map (.int .u8))
  apart : ∀ x y, a1 = some x → a2 = some y → x.block ≠ y.block
theorem own_blk {w w' : World} {base e n c : Nat} {a : Option Addr} {xs : List Value} (h : w.ownsRow base e 1 (.slice a n c) n xs) (hx : ∀ x, a = some x → w'.heap[x.block]? = w.heap[x.block]?) : w'.ownsRow base e 1 (.slice a n c) n xs := by
  cases a with
  | none =>
    refine ⟨h.1, .inl ?_⟩
    rcases h.2 with h0 | ⟨g, cap, cur, e1, _⟩
    · exact h0
    · simp at e1
  | some x =>
    refine ⟨h.1, h.2.imp id ?_⟩
    rintro ⟨g, cap, cur, e1, e2, e3, e4⟩
    have e5 := e1
    simp at e5
    have hxb := hx x rfl
    rw [e5.1] at hxb
    exact ⟨g, cap, cur, e1, e2, hxb.trans e3, e4⟩
theorem OwnC.below {w w' : World} {base : Nat} {a1 a2 : Option Addr} {c1 c2 : Nat} {xs ys : List Int} (h : OwnC w base a1 a2 c1 c2 xs ys) (hb : Below w.heap.size w w') : OwnC w' base a1 a2 c1 c2 xs ys := ⟨own_below h.one hb, own_below h.two hb, h.apart⟩

set_option maxHeartbeats 1000000 in
theorem markClash_any (f : Bool) (base : Nat) (a1 a2 : Option Addr) (c1 c2 : Nat) (xs ys : List Int) (k : Int) (w : World) (h : OwnC w base a1 a2 c1 c2 xs ys) (hbase : base ≤ w.heap.size) (hx : xs.length ≤ 1000) (hy : ys.length ≤ 1000) (k0 : 0 ≤ k) (k1 : k ≤ 1048576) :
    Calls Tryd.prog 92 #[.agg #[.bool f, .slice a1 xs.length c1, .slice a2 ys.length c2], .int .i64 k] w fun r w' => r = .returned (.int .i64 (k + xs.length + ys.length)) ∧ OwnC w' base a1 a2 c1 c2 (markL k xs.length) (markL (k + xs.length) ys.length) ∧ Fr (fun b => (∃ x, a1 = some x ∧ b = x.block) ∨ ∃ x, a2 = some x ∧ b = x.block) w w' := by
  have lt1 : ∀ x, a1 = some x → x.block < w.heap.size := fun x e => by subst e; exact own_lt h.one x rfl
  have lt2 : ∀ x, a2 = some x → x.block < w.heap.size := fun x e => by subst e; exact own_lt h.two x rfl
  have H0 := h.below ((Below.refl w.heap.size w).alloc (Nat.le_refl _) (.cells #[.bool f, .slice a1 xs.length c1, .slice a2 ys.length c2] 29))
  have HA : Hid (OwnC (w.alloc (.cells #[.bool f, .slice a1 xs.length c1, .slice a2 ys.length c2] 29)) base a1 a2 c1 c2 xs ys) := H0
  have F0 : Fr (fun b => (∃ x, a1 = some x ∧ b = x.block) ∨ ∃ x, a2 = some x ∧ b = x.block) w (w.alloc (.cells #[.bool f, .slice a1 xs.length c1, .slice a2 ys.length c2] 29)) := Fr.of_below ((Below.refl w.heap.size w).alloc (Nat.le_refl _) _) (Nat.le_refl _)
  have FH : Hid (Fr (fun b => (∃ x, a1 = some x ∧ b = x.block) ∨ ∃ x, a2 = some x ∧ b = x.block) w (w.alloc (.cells #[.bool f, .slice a1 xs.length c1, .slice a2 ys.length c2] 29))) := F0
  have ap : Hid (∀ x y, a1 = some x → a2 = some y → x.block ≠ y.block) := h.apart
  clear h H0 F0
  go_enter Tryd.func92, Tryd.ntmps92
  go_wp2_with fail
  refine (markByteS_any base a1 c1 k xs _ HA.out.one (by omega) k0 (by omega)).mono ?_
  rintro r u1 ⟨rfl, O1, m1⟩
  have s1 := m1.size
  simp at s1
  have T1 : Hid (u1.ownsRow base 5 1 (.slice a2 ys.length c2) ys.length (ys.map (.int .u8))) := own_blk HA.out.two (fun x e => m1.block _ (fun ad had => fun e2 => ap.out ad x had e e2.symm))
  have hbk : u1.heap[w.heap.size]? = (w.alloc (.cells #[.bool f, .slice a1 xs.length c1, .slice a2 ys.length c2] 29)).heap[w.heap.size]? := m1.block _ (fun ad had => by have := lt1 ad had; omega)
  have c2' : u1.cell? ⟨w.heap.size, 2, none⟩ = some (.slice a2 ys.length c2) := by
    have hn := World.alloc_heap_new w (.cells #[.bool f, .slice a1 xs.length c1, .slice a2 ys.length c2] 29)
    rw [hn] at hbk
    simp [World.cell?, hbk]
  have FR1 : Hid (Fr (fun b => (∃ x, a1 = some x ∧ b = x.block) ∨ ∃ x, a2 = some x ∧ b = x.block) w u1) := FH.out.marked m1 (fun ad had => .inl ⟨ad, had, rfl⟩)
  have O1' : Hid (u1.ownsRow base 5 1 (.slice a1 xs.length c1) xs.length ((markL k xs.length).map (.int .u8))) := O1
  clear O1 m1 hbk HA FH
  go_wp2_with fail
  refine (markByteS_any base a2 c2 (k + xs.length) ys _ T1.out (by omega) (by omega) (by omega)).mono ?_
  rintro r u2 ⟨rfl, O2, m2⟩
  have F2 := FR1.out.marked m2 (fun ad had => .inr ⟨ad, had, rfl⟩)
  have P1 := own_blk O1'.out (w' := u2) (fun x e => m2.block _ (fun ad had => ap.out x ad e had))
  go_wp2
  go_ret
  refine ⟨rfl, ⟨?_, ?_, ap.out⟩, F2⟩
  · rw [markL_len]; exact P1
  · rw [markL_len]; exact O2

set_option maxHeartbeats 1000000 in
theorem markClashR_any (cd : Int) (f : Bool) (base : Nat) (a1 a2 : Option Addr) (c1 c2 : Nat) (xs ys : List Int) (k : Int) (w : World) (h : OwnC w base a1 a2 c1 c2 xs ys) (hbase : base ≤ w.heap.size) (hx : xs.length ≤ 1000) (hy : ys.length ≤ 1000) (k0 : 0 ≤ k) (k1 : k ≤ 1048576) :
    Calls Tryd.prog 45 #[.agg #[.int .i64 cd, .bool f, .slice a1 xs.length c1, .slice a2 ys.length c2], .int .i64 k] w fun r w' => r = .returned (.int .i64 (k + xs.length + ys.length)) ∧ OwnC w' base a1 a2 c1 c2 (markL k xs.length) (markL (k + xs.length) ys.length) ∧ Fr (fun b => (∃ x, a1 = some x ∧ b = x.block) ∨ ∃ x, a2 = some x ∧ b = x.block) w w' := by
  have H0 := h.below ((Below.refl w.heap.size w).alloc (Nat.le_refl _) (.cells #[.int .i64 cd, .bool f, .slice a1 xs.length c1, .slice a2 ys.length c2] 31))
  have M : Hid (Calls Tryd.prog 92 #[.agg #[.bool f, .slice a1 xs.length c1, .slice a2 ys.length c2], .int .i64 k] (w.alloc (.cells #[.int .i64 cd, .bool f, .slice a1 xs.length c1, .slice a2 ys.length c2] 31)) fun r w' => r = .returned (.int .i64 (k + xs.length + ys.length)) ∧ OwnC w' base a1 a2 c1 c2 (markL k xs.length) (markL (k + xs.length) ys.length) ∧ Fr (fun b => (∃ x, a1 = some x ∧ b = x.block) ∨ ∃ x, a2 = some x ∧ b = x.block) (w.alloc (.cells #[.int .i64 cd, .bool f, .slice a1 xs.length c1, .slice a2 ys.length c2] 31)) w') := markClash_any f base a1 a2 c1 c2 xs ys k _ H0 (by simp; omega) hx hy k0 k1
  have F0 : Fr (fun b => (∃ x, a1 = some x ∧ b = x.block) ∨ ∃ x, a2 = some x ∧ b = x.block) w (w.alloc (.cells #[.int .i64 cd, .bool f, .slice a1 xs.length c1, .slice a2 ys.length c2] 31)) := Fr.of_below ((Below.refl w.heap.size w).alloc (Nat.le_refl _) _) (Nat.le_refl _)
  clear H0 h
  go_enter Tryd.func45, Tryd.ntmps45
  go_wp2_with fail
  refine M.out.mono ?_
  rintro r u1 ⟨rfl, O1, F1⟩
  go_wp2
  go_ret
  exact ⟨rfl, O1, F0.trans F1 (fun i _ e => e)⟩

set_option maxHeartbeats 1000000 in
theorem heldClash_any (f : Bool) (a1 a2 : Option Addr) (c1 c2 n1 n2 : Nat) (k : Int) (w : World) (h1 : Has w .u8 a1 (markL k n1).length (markL k n1)) (h2 : Has w .u8 a2 (markL (k + n1) n2).length (markL (k + n1) n2)) (hx : n1 ≤ 1000) (hy : n2 ≤ 1000) (k0 : 0 ≤ k) (k1 : k ≤ 1048576) :
    Calls Tryd.prog 93 #[.agg #[.bool f, .slice a1 n1 c1, .slice a2 n2 c2], .int .i64 k] w fun r w' => r = .returned (.int .i64 (k + n1 + n2)) ∧ Below w.heap.size w w' := by
  have A := h1.alloc (.cells #[.bool f, .slice a1 n1 c1, .slice a2 n2 c2] 29)
  have B := h2.alloc (.cells #[.bool f, .slice a1 n1 c1, .slice a2 n2 c2] 29)
  have g1 : ¬ k + (n1 : Int) < 0 := by omega
  have g2 : ¬ k + (n1 : Int) + n2 < 0 := by omega
  go_enter Tryd.func93, Tryd.ntmps93
  go_wp2_with fail
  refine (heldByteS_any a1 c1 k n1 _ A (by omega) k0 (by omega)).mono ?_
  rintro r u1 ⟨rfl, hb1⟩
  obtain ⟨hc1, hf1⟩ := bcell hb1
  have B1 := B.below hb1 (Nat.le_refl _)
  go_wp2_with fail
  refine (heldByteS_any a2 c2 (k + n1) n2 _ B1 (by omega) (by omega) (by omega)).mono ?_
  rintro r u2 ⟨rfl, hb2⟩
  go_wp2
  go_ret
  exact ⟨rfl, (((Below.refl _ _).alloc (Nat.le_refl _) _).trans (hb1.mono (by simp))).trans (hb2.mono (by have := hb1.size; simp at this; omega))⟩

set_option maxHeartbeats 1000000 in
theorem heldClashR_any (cd : Int) (f : Bool) (a1 a2 : Option Addr) (c1 c2 n1 n2 : Nat) (k : Int) (w : World) (h1 : Has w .u8 a1 (markL k n1).length (markL k n1)) (h2 : Has w .u8 a2 (markL (k + n1) n2).length (markL (k + n1) n2)) (hx : n1 ≤ 1000) (hy : n2 ≤ 1000) (k0 : 0 ≤ k) (k1 : k ≤ 1048576) :
    Calls Tryd.prog 46 #[.agg #[.int .i64 cd, .bool f, .slice a1 n1 c1, .slice a2 n2 c2], .int .i64 k] w fun r w' => r = .returned (.int .i64 (k + n1 + n2)) ∧ Below w.heap.size w w' := by
  have A := h1.alloc (.cells #[.int .i64 cd, .bool f, .slice a1 n1 c1, .slice a2 n2 c2] 31)
  have B := h2.alloc (.cells #[.int .i64 cd, .bool f, .slice a1 n1 c1, .slice a2 n2 c2] 31)
  have g2 : ¬ k + (n1 : Int) + n2 < 0 := by omega
  go_enter Tryd.func46, Tryd.ntmps46
  go_wp2_with fail
  refine (heldClash_any f a1 a2 c1 c2 n1 n2 k _ A B hx hy k0 k1).mono ?_
  rintro r u1 ⟨rfl, hb1⟩
  go_wp2
  go_ret
  exact ⟨rfl, ((Below.refl _ _).alloc (Nat.le_refl _) _).trans (hb1.mono (by simp))⟩

set_option maxHeartbeats 1000000 in
theorem eqClashR_any (cd : Int) (f : Bool) (a b c d : Option Addr) (ca cb cc cd' : Nat) (zs ys : List Int) (w : World) (ha : Has w .u8 a zs.length zs) (hb : Has w .u8 b ys.length ys) (hc : Has w .u8 c zs.length zs) (hd : Has w .u8 d ys.length ys) (hla : zs.length ≤ 1048576) (hlb : ys.length ≤ 1048576) :
    Calls Tryd.prog 38 #[.agg #[.int .i64 cd, .bool f, .slice a zs.length ca, .slice b ys.length cb], .agg #[.int .i64 cd, .bool f, .slice c zs.length cc, .slice d ys.length cd']] w fun r w' => r = .returned (.bool true) ∧ Below w.heap.size w w' := by
  have hcc : (cd != cd) = false := by simp
  have A := (ha.alloc (.cells #[.int .i64 cd, .bool f, .slice a zs.length ca, .slice b ys.length cb] 31)).alloc (.cells #[.int .i64 cd, .bool f, .slice c zs.length cc, .slice d ys.length cd'] 31)
  have B := (hb.alloc (.cells #[.int .i64 cd, .bool f, .slice a zs.length ca, .slice b ys.length cb] 31)).alloc (.cells #[.int .i64 cd, .bool f, .slice c zs.length cc, .slice d ys.length cd'] 31)
  have C := (hc.alloc (.cells #[.int .i64 cd, .bool f, .slice a zs.length ca, .slice b ys.length cb] 31)).alloc (.cells #[.int .i64 cd, .bool f, .slice c zs.length cc, .slice d ys.length cd'] 31)
  have D := (hd.alloc (.cells #[.int .i64 cd, .bool f, .slice a zs.length ca, .slice b ys.length cb] 31)).alloc (.cells #[.int .i64 cd, .bool f, .slice c zs.length cc, .slice d ys.length cd'] 31)
  go_enter Tryd.func38, Tryd.ntmps38
  go_wp2_with fail
  refine (eqClash_any f a b c d ca cb cc cd' zs ys _ A B C D hla hlb).mono ?_
  rintro r u1 ⟨rfl, hb1⟩
  go_wp2
  go_ret
  exact ⟨rfl, (((Below.refl _ _).alloc (Nat.le_refl _) _).alloc (by simp) _).trans (hb1.mono (by simp; omega))⟩

end Go.Proofs.YtklhkhlmhddmcaaDoor
