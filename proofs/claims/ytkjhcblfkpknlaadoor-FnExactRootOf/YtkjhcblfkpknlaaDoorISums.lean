/- Contracts of the program's chapter 2: the sum of a piece. Contracts of the program's chapter 2: pieces laid together out of parts. Contracts of the program's chapter 2: the bytes of leaves, nodes and slots, and their sums. Contracts of the program's chapter 2: the sums of leaves, nodes and slots. -/
import Derived.Test.YtkjhcblfkpknlaaDoorPiece
namespace Go.Proofs.YtkjhcblfkpknlaaDoor
open Go.ChangeShapes Go.WideShapes Go.ChangeAt Go.RowKit
set_option linter.unusedVariables false
set_option linter.unusedSimpArgs false

/-- The code and the value of a sum. -/
def sumC (zs : List Int) : Int := if 300 < zs.length then 2 else 0
def sumV (zs : List Int) : Int := if 300 < zs.length then 0 else sumL zs

set_option maxHeartbeats 1000000 in
theorem implSumOf_any (a : Option Addr) (cap : Nat) (zs : List Int) (w : World) (h : Has w .u8 a zs.length zs) (hl : zs.length ≤ 2097152) :
    Calls Tryd.prog 32 #[.slice a zs.length cap] w fun r w' => r = .returned (.agg #[.int .i64 (sumC zs), .int .i64 (sumV zs)]) ∧ Below w.heap.size w w' := by
  have h' := h.alloc (.cells #[.int .i64 0, .int .i64 0] 33)
  unfold sumC sumV
  by_cases hb : 300 < zs.length
  · rw [if_pos hb, if_pos hb]
    have hb' : (300 : Int) < (zs.length : Int) := by omega
    go_enter Tryd.func32, Tryd.ntmps32
    go_wp2
    refine bodyPost_ret (v := .agg #[.int .i64 2, .int .i64 0]) (by simp [results, Tryd.results32, go_sem]) rfl ⟨rfl, ?_⟩
    repeat (first | exact Below.refl _ _ | refine Below.alloc ?_ (by (try simp) <;> omega) _ | refine Below.setCell ?_ (by (try simp) <;> omega) _)
  · rw [if_neg hb, if_neg hb]
    have hb' : (zs.length : Int) ≤ 300 := by omega
    have hall : sumL (zs.take zs.length) = sumL zs := by rw [List.take_length]
    have HA : Hid (_) := hall
    clear hall
    obtain ⟨_, hwf, hc⟩ := h'
    rcases hc with h0 | ⟨b, off, rfl, hbb, hcell⟩
    · obtain rfl : zs = [] := List.eq_nil_of_length_eq_zero h0
      clear h0
      simp only [List.length_nil]
      go_enter Tryd.func32, Tryd.ntmps32
      go_wp2
      refine wp_loop_rounds 1 ?_
      rw [rounds_succ]
      go_wp2
      refine bodyPost_ret (v := .agg #[.int .i64 0, .int .i64 11]) (by simp [results, Tryd.results32, go_sem]) rfl ⟨rfl, ?_⟩
      repeat (first | exact Below.refl _ _ | refine Below.alloc ?_ (by (try simp) <;> omega) _ | refine Below.setCell ?_ (by (try simp) <;> omega) _)
    · go_enter Tryd.func32, Tryd.ntmps32
      go_wp2
      go_loop [3, 12] (fun n i => ∃ k : Nat, k ≤ zs.length ∧ i = .int .i64 k ∧ n = .int .i64 (sumL (zs.take k))) (fun _ i => zs.length - (intOf i).toNat)
      case atStart => exact ⟨0, Nat.zero_le _, rfl, rfl⟩
      case round =>
        obtain ⟨k, hk, rfl, rfl⟩ := hrel
        have hs := sum_bd (zs.take k)
        by_cases hlt : k < zs.length
        · have hx : (w.alloc (.cells #[.int .i64 0, .int .i64 0] 33)).cell? ⟨b, off + k, none⟩ = some (.int .u8 zs[k]) := by rw [hcell k hlt]; simp [List.getD, hlt]
          have hxb := bounds_u8 (hwf zs[k] (List.getElem_mem hlt))
          have HS : Hid (_) := sum_succ zs k hlt
          have hlt' : (k : Int) < (zs.length : Int) := by omega
          generalize zs[k] = x at hx hxb HS
          generalize sumL (zs.take k) = n at hs HS
          clear hcell hwf
          go_wp2
          go_round
          case rel => exact ⟨k + 1, by omega, by go_num, by rw [HS.out]⟩
          case measure => simp [intOf]; omega
        · have hkk : k = zs.length := by omega
          have HK : Hid (k = zs.length) := hkk
          clear hkk
          go_wp2
          refine bodyPost_ret (v := .agg #[.int .i64 0, .int .i64 (sumL zs)]) (by simp [results, Tryd.results32, go_sem]; rw [HK.out, HA.out]) rfl ⟨rfl, ?_⟩
          repeat (first | exact Below.refl _ _ | refine Below.alloc ?_ (by (try simp) <;> omega) _ | refine Below.setCell ?_ (by (try simp) <;> omega) _)

end Go.Proofs.YtkjhcblfkpknlaaDoor

namespace Go.Proofs.YtkjhcblfkpknlaaDoor
open Go.ChangeShapes Go.WideShapes Go.ChangeAt Go.RowKit
set_option linter.unusedVariables false
set_option linter.unusedSimpArgs false

/-- The table of what begins a piece, as the program lays it. -/
def Tab (w : World) : Prop := 0 < w.heap.size ∧ ∀ i : Nat, i < 6 → w.cell? ⟨0, i, none⟩ = some (.int .u8 i)
theorem Tab.below {w w' : World} (h : Tab w) {B : Nat} (hb : Below B w w') (hB : w.heap.size ≤ B) : Tab w' :=
  ⟨Nat.lt_of_lt_of_le h.1 hb.size, fun i hi => (hb.cell (p := ⟨0, i, none⟩) (Nat.lt_of_lt_of_le h.1 hB)).trans (h.2 i hi)⟩
theorem Tab.alloc {w : World} (h : Tab w) (O : Obj) : Tab (w.alloc O) := h.below ((Below.refl _ _).alloc (Nat.le_refl _) O) (Nat.le_refl _)

/-- What begins a piece, and its parts: each an address, a capacity, its bytes. -/
def pieceL (kd : Nat) (ps : List (Option Addr × Nat × List Int)) : List Int := (kd : Int) :: (ps.map fun p => p.2.2).flatten
theorem pieceL_succ (kd : Nat) (ps : List (Option Addr × Nat × List Int)) (k : Nat) (h : k < ps.length) : pieceL kd (ps.take (k + 1)) = pieceL kd (ps.take k) ++ ps[k].2.2 := by
  unfold pieceL
  rw [List.take_succ_eq_append_getElem h, List.map_append, List.flatten_append]
  simp
theorem pieceL_le (kd : Nat) (ps : List (Option Addr × Nat × List Int)) (k : Nat) : (pieceL kd (ps.take k)).length ≤ (pieceL kd ps).length := by
  have e : pieceL kd ps = pieceL kd (ps.take k) ++ ((ps.drop k).map fun p => p.2.2).flatten := by
    have := List.take_append_drop k ps
    conv => lhs; rw [← this]
    unfold pieceL
    rw [List.map_append, List.flatten_append]
    rfl
  rw [e, List.length_append]
  omega

set_option maxHeartbeats 2000000 in
theorem pieceOf_any (kd : Nat) (hk : kd < 6) (ps : List (Option Addr × Nat × List Int)) (g : Nat) (w : World) (hT : Tab w) (hg : g < w.heap.size)
    (hcell : ∀ i (h : i < ps.length), w.cell? ⟨g, i, none⟩ = some (.slice ps[i].1 ps[i].2.2.length ps[i].2.1)) (hps : ∀ i (h : i < ps.length), Has w .u8 ps[i].1 ps[i].2.2.length ps[i].2.2) (hn : ps.length ≤ 100) (hl : (pieceL kd ps).length ≤ 2097152) :
    Calls Tryd.prog 102 #[.int .i64 kd, .slice (some ⟨g, 0, none⟩) ps.length ps.length] w fun r w' => ∃ a' c', r = .returned (.slice a' (pieceL kd ps).length c') ∧ w'.ownsRow w.heap.size 5 1 (.slice a' (pieceL kd ps).length c') (pieceL kd ps).length ((pieceL kd ps).map (.int .u8)) ∧ Below w.heap.size w w' := by
  obtain ⟨i0, hi, hz0, hz1, hz2⟩ := info_parts info8
  obtain ⟨t0, t1⟩ := hT
  have hown0 : (w.alloc (.cells #[.int .u8 kd] 5)).ownsRow w.heap.size 5 1 (.slice (some ⟨w.heap.size, 0, none⟩) 1 1) 1 [.int .u8 kd] := World.ownsRow_lit w #[.int .u8 kd] 1 (Nat.le_refl _) (by unfold maxLen; omega) rfl
  have hend : pieceL kd (ps.take ps.length) = pieceL kd ps := by rw [List.take_length]
  have HE : Hid (_) := hend
  have hstart : pieceL kd (ps.take 0) = [(kd : Int)] := by simp [pieceL]
  have HSt : Hid (_) := hstart
  clear hend hstart
  have hkk : (kd : Int) < 6 := by omega
  have ht : w.cell? ⟨0, kd, none⟩ = some (.int .u8 kd) := t1 kd hk
  clear t1
  have HL : Hid (_) := hl
  clear hl hk
  go_enter Tryd.func102, Tryd.ntmps102
  go_wp2
  go_loopw [5, 14] (fun v i wr => ∃ (k : Nat) (a' : Option Addr) (c' : Nat), k ≤ ps.length ∧ i = .int .i64 k ∧ v = .slice a' (pieceL kd (ps.take k)).length c' ∧ wr.ownsRow w.heap.size 5 1 (.slice a' (pieceL kd (ps.take k)).length c') (pieceL kd (ps.take k)).length ((pieceL kd (ps.take k)).map (.int .u8)) ∧ Below w.heap.size w wr) (fun _ i _ => ps.length - (intOf i).toNat)
  case atStart =>
    refine ⟨0, some ⟨w.heap.size, 0, none⟩, 1, Nat.zero_le _, rfl, ?_, ?_, ?_⟩
    · rw [HSt.out]; rfl
    · rw [HSt.out]; exact hown0
    · exact (Below.refl _ _).alloc (Nat.le_refl _) _
  case round =>
    obtain ⟨k, a', c', hk, rfl, rfl, hown, hbel⟩ := hrel
    by_cases hlt : k < ps.length
    · have hlt' : (k : Int) < (ps.length : Int) := by omega
      have hx : wr.cell? ⟨g, k, none⟩ = some (.slice ps[k].1 ps[k].2.2.length ps[k].2.1) := (hbel.cell (p := ⟨g, k, none⟩) hg).trans (hcell k hlt)
      have hh : Has wr .u8 ps[k].1 ps[k].2.2.length ps[k].2.2 := (hps k hlt).below hbel (Nat.le_refl _)
      have hS := pieceL_succ kd ps k hlt
      have hle := pieceL_le kd ps (k + 1)
      rw [hS, List.length_append] at hle
      have hln := HL.out
      have hpos : 0 < (pieceL kd (ps.take k)).length := by simp [pieceL]
      generalize ps[k] = p at hx hh hS hle
      obtain ⟨ad, cp, zs⟩ := p
      simp only at hx hh hS hle
      generalize pieceL kd (ps.take k) = cur at hown hS hle hpos
      have HS : Hid (_) := hS
      clear hS hcell hps ht hown0
      obtain ⟨gg, rfl, hcc⟩ : ∃ gg, a' = some ⟨gg, 0, none⟩ ∧ cur.length ≤ c' := by
        rcases hown.2 with ⟨e, e0⟩ | ⟨gg, _, _, e, _, _, e2, _⟩
        · omega
        · simp at e; exact ⟨gg, e.1, by omega⟩
      cases ad with
      | none =>
        have h0 : zs.length = 0 := by
          rcases hh.2.2 with c | ⟨_, _, c, _⟩
          · exact c
          · cases c
        obtain rfl : zs = [] := List.eq_nil_of_length_eq_zero h0
        clear h0 hh
        simp only [List.length_nil] at hx
        go_wp2
        go_roundw
        case rel =>
          refine ⟨k + 1, some ⟨gg, 0, none⟩, c', by omega, by go_num, ?_, ?_, hbel⟩
          · rw [HS.out, List.append_nil]
          · rw [HS.out, List.append_nil]; exact hown
        case measure => simp [intOf]; omega
      | some ad =>
        have H1 : Hid (∀ j u, (zs.map (.int .u8))[j]? = some u → wr.cell? (ad.add j) = some u) := hh.news
        clear hh
        go_wp2_with (at_builtin; (refine wpList_append_own _ rfl _ _ 22 rfl w.heap.size 5 i0 (.int .u8 0) 1 1 Tryd.underlying22 hi hz0 hz1 hz2 rfl (by decide) _ _ _ rfl hown ad zs.length cp (zs.map (.int .u8)) rfl (by simp) H1.out (by intro u hu; simp at hu; obtain ⟨n, _, rfl⟩ := hu; rfl) (by unfold maxLen; omega) (by omega) (by have := hbel.size; omega) ?_); intro v' w3 hown3 hgrow _h4)
        obtain ⟨a2, c2, rfl⟩ := own_row_shape hown3
        go_roundw
        case rel =>
          refine ⟨k + 1, a2, c2, by omega, by go_num, ?_, ?_, ?_⟩
          · rw [HS.out, List.length_append]
          · rw [HS.out, List.length_append, List.map_append]; exact hown3
          · exact hbel.grown hgrow hbel.size (fun k hk => (hown.lt k hk).1)
        case measure => simp [intOf]; omega
    · have hkk : k = ps.length := by omega
      have HK : Hid (k = ps.length) := hkk
      clear hkk
      go_wp2
      go_ret
      rw [HK.out, HE.out] at hown
      refine ⟨a', c', ?_, hown, hbel⟩
      rw [HK.out, HE.out]
      rfl

end Go.Proofs.YtkjhcblfkpknlaaDoor

namespace Go.Proofs.YtkjhcblfkpknlaaDoor
open Go.ChangeShapes Go.WideShapes Go.ChangeAt Go.RowKit
set_option linter.unusedVariables false
set_option linter.unusedSimpArgs false

theorem isSum_any (v : Int) (w : World) : Calls Tryd.prog 63 #[.int .i64 v] w fun r w' => r = .returned (.bool (decide (0 ≤ v ∧ v ≤ 65520))) ∧ w' = w := by
  by_cases h : 0 ≤ v
  · go_enter Tryd.func63, Tryd.ntmps63
    go_wp2
    go_ret
    exact ⟨ret_bool (by simp [h]), rfl⟩
  · go_enter Tryd.func63, Tryd.ntmps63
    go_wp2
    go_ret
    exact ⟨ret_bool (by simp; omega), rfl⟩

theorem twoBytes_any (v : Int) (w : World) (h0 : 0 ≤ v) (h1 : v ≤ 65535) :
    Calls Tryd.prog 103 #[.int .i64 v] w fun r w' => r = .returned (.slice (some ⟨w.heap.size, 0, none⟩) 2 2) ∧ w' = w.alloc (.cells #[.int .u8 (v / 256), .int .u8 (v % 256)] 5) := by
  go_enter Tryd.func103, Tryd.ntmps103
  go_wp2
  go_ret
  exact ⟨rfl, rfl⟩

/-- The code and the bytes of a leaf, of a node. -/
def leafC (zs : List Int) : Int := if 250 < zs.length then 2 else 0
def leafB (zs : List Int) : List Int := if 250 < zs.length then [] else leafL zs
def nodeC (a b : Int) : Int := if (0 ≤ a ∧ a ≤ 65520) ∧ 0 ≤ b ∧ b ≤ 65520 then 0 else 3
def nodeB (a b : Int) : List Int := if (0 ≤ a ∧ a ≤ 65520) ∧ 0 ≤ b ∧ b ≤ 65520 then nodeL a b else []
theorem leafB_wf {zs : List Int} (h : ∀ n ∈ zs, (Lit.int .u8 n).wf = true) : ∀ n ∈ leafB zs, (Lit.int .u8 n).wf = true := by
  unfold leafB
  split
  · simp
  · exact leaf_wf h
theorem nodeB_wf (a b : Int) : ∀ n ∈ nodeB a b, (Lit.int .u8 n).wf = true := by
  unfold nodeB
  split
  · exact node_wf (by omega) (by omega) (by omega) (by omega)
  · simp
theorem nil_own (w : World) (base e : Nat) : w.ownsRow base e 1 (.slice none 0 0) 0 (([] : List Int).map (.int .u8)) := ⟨rfl, .inl ⟨rfl, rfl⟩⟩
theorem own_set {w : World} {base e n g o : Nat} {a : Option Addr} {c : Nat} {xs : List Value} (h : w.ownsRow base e 1 (.slice a n c) n xs) (hg : g < base) (u : Value) : (w.setCell ⟨g, o, none⟩ u).ownsRow base e 1 (.slice a n c) n xs := by
  refine ⟨h.1, h.2.imp id ?_⟩
  rintro ⟨g', cap, cur, e1, e2, e3, e4⟩
  exact ⟨g', cap, cur, e1, e2, (Below.heap_setCell w ⟨g, o, none⟩ u g' (by show g' ≠ g; omega)).trans e3, e4⟩
theorem own_mono {w : World} {base base' e n : Nat} {v : Value} {xs : List Value} (h : w.ownsRow base e 1 v n xs) (hb : base' ≤ base) : w.ownsRow base' e 1 v n xs := by
  refine ⟨h.1, h.2.imp id ?_⟩
  rintro ⟨g', cap, cur, e1, e2, e4⟩
  exact ⟨g', cap, cur, e1, by omega, e4⟩

set_option maxHeartbeats 1000000 in
theorem implLeafBytes_any (a : Option Addr) (cap : Nat) (zs : List Int) (w : World) (hT : Tab w) (h : Has w .u8 a zs.length zs) :
    Calls Tryd.prog 101 #[.slice a zs.length cap] w fun r w' => ∃ a' c', r = .returned (.agg #[.int .i64 (leafC zs), .slice a' (leafB zs).length c']) ∧ w'.ownsRow w.heap.size 5 1 (.slice a' (leafB zs).length c') (leafB zs).length ((leafB zs).map (.int .u8)) ∧ Below w.heap.size w w' := by
  unfold leafC leafB
  by_cases hb : 250 < zs.length
  · rw [if_pos hb, if_pos hb]
    have hb' : (250 : Int) < (zs.length : Int) := by omega
    go_enter Tryd.func101, Tryd.ntmps101
    go_wp2
    refine bodyPost_ret (v := .agg #[.int .i64 2, .slice none 0 0]) (by simp [results, Tryd.results101, go_sem]) rfl ⟨_, _, rfl, nil_own _ _ _, ?_⟩
    repeat (first | exact Below.refl _ _ | refine Below.alloc ?_ (by (try simp) <;> omega) _ | refine Below.setCell ?_ (by (try simp) <;> omega) _)
  · rw [if_neg hb, if_neg hb]
    have hb' : (zs.length : Int) ≤ 250 := by omega
    have e : pieceL 0 [(a, cap, zs)] = leafL zs := by simp [pieceL, leafL]
    go_enter Tryd.func101, Tryd.ntmps101
    go_wp2_with fail
    refine (pieceOf_any 0 (by decide) [(a, cap, zs)] (w.heap.size + 1) _ ((hT.alloc _).alloc _) (by simp) (by intro i hi; obtain rfl : i = 0 := (by simpa using hi); simp [go_sem]) (by intro i hi; obtain rfl : i = 0 := (by simpa using hi); exact (h.alloc _).alloc _) (by simp) (by rw [e]; simp [leafL]; omega)).mono ?_
    rw [e]
    rintro r u1 ⟨a', c', rfl, hown, hb1⟩
    have hz1 := hb1.size
    simp at hz1
    obtain ⟨hc1, hf1⟩ := bcell hb1
    have r0 := hc1 w.heap.size 0 (by simp; omega)
    have r1 := hc1 w.heap.size 1 (by simp; omega)
    simp [go_sem] at r0 r1
    go_wp2
    refine bodyPost_ret (v := .agg #[.int .i64 0, .slice a' (leafL zs).length c']) (by simp [results, Tryd.results101, go_sem, r0, r1]) rfl ⟨_, _, rfl, ?_, ?_⟩
    · exact own_mono (own_set (own_set hown (by simp; omega) _) (by simp; omega) _) (by simp; omega)
    · repeat (first | exact Below.refl _ _ | (refine Below.alloc ?_ (by (try simp) <;> omega) _) | (refine Below.setCell ?_ (by (try simp) <;> omega) _) | (refine Below.trans ?_ (hb1.mono (by (try simp) <;> omega))))

theorem has_two (w : World) {x y : Int} (T : Nat) (hx : 0 ≤ x ∧ x ≤ 255) (hy : 0 ≤ y ∧ y ≤ 255) : Has (w.alloc (.cells #[.int .u8 x, .int .u8 y] T)) .u8 (some ⟨w.heap.size, 0, none⟩) [x, y].length [x, y] := by
  refine ⟨rfl, ?_, .inr ⟨w.heap.size, 0, rfl, by simp, ?_⟩⟩
  · intro n hn
    simp at hn
    rcases hn with rfl | rfl
    · exact wf_u8 hx.1 hx.2
    · exact wf_u8 hy.1 hy.2
  · intro i hi
    match i, hi with
    | 0, _ => simp [go_sem]
    | 1, _ => simp [go_sem]
theorem has_one (w : World) {x : Int} (T : Nat) (hx : 0 ≤ x ∧ x ≤ 255) : Has (w.alloc (.cells #[.int .u8 x] T)) .u8 (some ⟨w.heap.size, 0, none⟩) [x].length [x] := by
  refine ⟨rfl, ?_, .inr ⟨w.heap.size, 0, rfl, by simp, ?_⟩⟩
  · intro n hn
    simp at hn
    subst hn
    exact wf_u8 hx.1 hx.2
  · intro i hi
    match i, hi with
    | 0, _ => simp [go_sem]

set_option maxHeartbeats 2000000 in
theorem implNodeBytes_any (a b : Int) (w : World) (hT : Tab w) :
    Calls Tryd.prog 78 #[.int .i64 a, .int .i64 b] w fun r w' => ∃ a' c', r = .returned (.agg #[.int .i64 (nodeC a b), .slice a' (nodeB a b).length c']) ∧ w'.ownsRow w.heap.size 5 1 (.slice a' (nodeB a b).length c') (nodeB a b).length ((nodeB a b).map (.int .u8)) ∧ Below w.heap.size w w' := by
  unfold nodeC nodeB
  have tok1 : True := trivial
  by_cases ha : 0 ≤ a ∧ a ≤ 65520
  · have hda : decide (0 ≤ a ∧ a ≤ 65520) = true := by simpa using ha
    by_cases hb : 0 ≤ b ∧ b ≤ 65520
    · have hdb : decide (0 ≤ b ∧ b ≤ 65520) = true := by simpa using hb
      rw [if_pos ⟨ha, hb⟩, if_pos ⟨ha, hb⟩]
      have e : pieceL 1 [(some ⟨w.heap.size + 1, 0, none⟩, 2, [a / 256, a % 256]), (some ⟨w.heap.size + 1 + 1, 0, none⟩, 2, [b / 256, b % 256])] = nodeL a b := by simp [pieceL, nodeL]
      obtain ⟨a0, a1⟩ := ha
      obtain ⟨b0, b1⟩ := hb
      go_enter Tryd.func78, Tryd.ntmps78
      go_wp2_with (first | (go_at_call 63; have _t := tok1; refine (isSum_any a _).mono ?_; rintro r u ⟨rfl, rfl⟩; rw [hda]; clear tok1 _t) | (go_at_call 63; refine (isSum_any b _).mono ?_; rintro r u ⟨rfl, rfl⟩; rw [hdb]; have tok2 : True := trivial) | (go_at_call 103; have _t := tok2; refine (twoBytes_any a _ a0 (by omega)).mono ?_; rintro r u ⟨rfl, rfl⟩; clear tok2 _t) | (go_at_call 103; refine (twoBytes_any b _ b0 (by omega)).mono ?_; rintro r u ⟨rfl, rfl⟩))
      refine (pieceOf_any 1 (by decide) [(some ⟨w.heap.size + 1, 0, none⟩, 2, [a / 256, a % 256]), (some ⟨w.heap.size + 1 + 1, 0, none⟩, 2, [b / 256, b % 256])] (w.heap.size + 1 + 1 + 1) _ ((((hT.alloc _).alloc _).alloc _).alloc _) (by simp) ?hc ?hh (by simp) (by rw [e]; simp [nodeL])).mono ?_
      case hc =>
        intro i hi
        match i, hi with
        | 0, _ => simp [go_sem]
        | 1, _ => simp [go_sem]
      case hh =>
        intro i hi
        match i, hi with
        | 0, _ =>
          have hh0 := has_two (w.alloc (.cells #[.int .i64 0, .slice none 0 0] 81)) (x := a / 256) (y := a % 256) 5 (by omega) (by omega)
          have hh1 := (hh0.alloc (.cells #[.int .u8 (b / 256), .int .u8 (b % 256)] 5)).alloc (.cells #[.slice (some ⟨w.heap.size + 1, 0, none⟩) 2 2, .slice (some ⟨w.heap.size + 1 + 1, 0, none⟩) 2 2] 22)
          simpa using hh1
        | 1, _ =>
          have hh0 := has_two ((w.alloc (.cells #[.int .i64 0, .slice none 0 0] 81)).alloc (.cells #[.int .u8 (a / 256), .int .u8 (a % 256)] 5)) (x := b / 256) (y := b % 256) 5 (by omega) (by omega)
          have hh1 := hh0.alloc (.cells #[.slice (some ⟨w.heap.size + 1, 0, none⟩) 2 2, .slice (some ⟨w.heap.size + 1 + 1, 0, none⟩) 2 2] 22)
          simpa using hh1
      rw [e]
      rintro r u1 ⟨a', c', rfl, hown, hb1⟩
      have hz1 := hb1.size
      simp at hz1
      obtain ⟨hc1, hf1⟩ := bcell hb1
      have r0 := hc1 w.heap.size 0 (by simp; omega)
      have r1 := hc1 w.heap.size 1 (by simp; omega)
      have f0 := hf1 w.heap.size 0 (by simp; omega)
      have f1 := hf1 w.heap.size 1 (by simp; omega)
      simp [go_sem] at r0 r1 f0 f1
      go_wp2
      refine bodyPost_ret (v := .agg #[.int .i64 0, .slice a' (nodeL a b).length c']) (by simp [results, Tryd.results78, go_sem, r0, r1]) rfl ⟨_, _, rfl, ?_, ?_⟩
      · exact own_mono (own_set (own_set hown (by simp; omega) _) (by simp; omega) _) (by simp; omega)
      · repeat (first | exact Below.refl _ _ | (refine Below.alloc ?_ (by (try simp) <;> omega) _) | (refine Below.setCell ?_ (by (try simp) <;> omega) _) | (refine Below.trans ?_ (hb1.mono (by (try simp) <;> omega))))
    · have hdb : decide (0 ≤ b ∧ b ≤ 65520) = false := by simp; omega
      rw [if_neg (by omega), if_neg (by omega)]
      go_enter Tryd.func78, Tryd.ntmps78
      go_wp2_with (first | (go_at_call 63; have _t := tok1; refine (isSum_any a _).mono ?_; rintro r u ⟨rfl, rfl⟩; rw [hda]; clear tok1 _t) | (go_at_call 63; refine (isSum_any b _).mono ?_; rintro r u ⟨rfl, rfl⟩; rw [hdb]))
      refine bodyPost_ret (v := .agg #[.int .i64 3, .slice none 0 0]) (by simp [results, Tryd.results78, go_sem]) rfl ⟨_, _, rfl, nil_own _ _ _, ?_⟩
      repeat (first | exact Below.refl _ _ | refine Below.alloc ?_ (by (try simp) <;> omega) _ | refine Below.setCell ?_ (by (try simp) <;> omega) _)
  · have hda : decide (0 ≤ a ∧ a ≤ 65520) = false := by simp; omega
    rw [if_neg (by omega), if_neg (by omega)]
    go_enter Tryd.func78, Tryd.ntmps78
    go_wp2_with (go_at_call 63; refine (isSum_any a _).mono ?_; rintro r u ⟨rfl, rfl⟩; rw [hda])
    refine bodyPost_ret (v := .agg #[.int .i64 3, .slice none 0 0]) (by simp [results, Tryd.results78, go_sem]) rfl ⟨_, _, rfl, nil_own _ _ _, ?_⟩
    repeat (first | exact Below.refl _ _ | refine Below.alloc ?_ (by (try simp) <;> omega) _ | refine Below.setCell ?_ (by (try simp) <;> omega) _)

end Go.Proofs.YtkjhcblfkpknlaaDoor

namespace Go.Proofs.YtkjhcblfkpknlaaDoor
open Go.ChangeShapes Go.WideShapes Go.ChangeAt Go.RowKit
set_option linter.unusedVariables false
set_option linter.unusedSimpArgs false

/-- The codes and the values of the sums. -/
def leafV (zs : List Int) : Int := if 250 < zs.length then 0 else sumL (leafL zs)
def nodeV (a b : Int) : Int := if (0 ≤ a ∧ a ≤ 65520) ∧ 0 ≤ b ∧ b ≤ 65520 then sumL (nodeL a b) else 0
def slotL (k v : Int) : List Int := [2, k, v / 256, v % 256]
def slotC (k v : Int) : Int := if (0 ≤ k ∧ k ≤ 63) ∧ 0 ≤ v ∧ v ≤ 65520 then 0 else 3
def slotV (k v : Int) : Int := if (0 ≤ k ∧ k ≤ 63) ∧ 0 ≤ v ∧ v ≤ 65520 then sumL (slotL k v) else 0

set_option maxHeartbeats 1000000 in
theorem sumOfBytes_ok (a : Option Addr) (cap : Nat) (zs : List Int) (w : World) (h : Has w .u8 a zs.length zs) (hl : zs.length ≤ 300) :
    Calls Tryd.prog 77 #[.agg #[.int .i64 0, .slice a zs.length cap]] w fun r w' => r = .returned (.agg #[.int .i64 0, .int .i64 (sumL zs)]) ∧ Below w.heap.size w w' := by
  have e1 : sumC zs = 0 := by unfold sumC; rw [if_neg (by omega)]
  have e2 : sumV zs = sumL zs := by unfold sumV; rw [if_neg (by omega)]
  go_enter Tryd.func77, Tryd.ntmps77
  go_wp2_with fail
  refine (implSumOf_any a cap zs _ ((h.alloc _).alloc _) (by omega)).mono ?_
  rw [e1, e2]
  rintro r u1 ⟨rfl, hb1⟩
  have hz1 := hb1.size
  simp at hz1
  obtain ⟨hc1, hf1⟩ := bcell hb1
  have r0 := hc1 (w.heap.size + 1) 0 (by simp)
  have r1 := hc1 (w.heap.size + 1) 1 (by simp)
  have f0 := hf1 (w.heap.size + 1) 0 (by simp)
  have f1 := hf1 (w.heap.size + 1) 1 (by simp)
  simp [go_sem] at r0 r1 f0 f1
  go_wp2
  refine bodyPost_ret (v := .agg #[.int .i64 0, .int .i64 (sumL zs)]) (by simp [results, Tryd.results77, go_sem, r0, r1]) rfl ⟨rfl, ?_⟩
  repeat (first | exact Below.refl _ _ | (refine Below.alloc ?_ (by (try simp) <;> omega) _) | (refine Below.setCell ?_ (by (try simp) <;> omega) _) | (refine Below.trans ?_ (hb1.mono (by (try simp) <;> omega))))

theorem sumOfBytes_bad (c : Int) (hc : c ≠ 0) (v : Value) (hv : ∃ a n cap, v = .slice a n cap) (w : World) :
    Calls Tryd.prog 77 #[.agg #[.int .i64 c, v]] w fun r w' => r = .returned (.agg #[.int .i64 c, .int .i64 0]) ∧ Below w.heap.size w w' := by
  have hc' : (c != 0) = true := by simpa using hc
  obtain ⟨a, n, cap, rfl⟩ := hv
  clear hc
  go_enter Tryd.func77, Tryd.ntmps77
  go_wp2
  refine bodyPost_ret (v := .agg #[.int .i64 c, .int .i64 0]) (by simp [results, Tryd.results77, go_sem]) rfl ⟨rfl, ?_⟩
  repeat (first | exact Below.refl _ _ | refine Below.alloc ?_ (by (try simp) <;> omega) _ | refine Below.setCell ?_ (by (try simp) <;> omega) _)

set_option maxHeartbeats 1000000 in
theorem implLeafSum_any (a : Option Addr) (cap : Nat) (zs : List Int) (w : World) (hT : Tab w) (h : Has w .u8 a zs.length zs) :
    Calls Tryd.prog 72 #[.slice a zs.length cap] w fun r w' => r = .returned (.agg #[.int .i64 (leafC zs), .int .i64 (leafV zs)]) ∧ Below w.heap.size w w' := by
  have hS : ∀ (w1 : World) a' c', Has w1 .u8 a' (leafB zs).length (leafB zs) → Calls Tryd.prog 77 #[.agg #[.int .i64 (leafC zs), .slice a' (leafB zs).length c']] w1 fun r w' => r = .returned (.agg #[.int .i64 (leafC zs), .int .i64 (leafV zs)]) ∧ Below w1.heap.size w1 w' := by
    intro w1 a' c' H
    by_cases hb : 250 < zs.length
    · have e1 : leafC zs = 2 := by unfold leafC; rw [if_pos hb]
      have e2 : leafV zs = 0 := by unfold leafV; rw [if_pos hb]
      rw [e1, e2]
      exact sumOfBytes_bad 2 (by decide) _ ⟨_, _, _, rfl⟩ w1
    · have e1 : leafC zs = 0 := by unfold leafC; rw [if_neg hb]
      have e3 : leafB zs = leafL zs := by unfold leafB; rw [if_neg hb]
      have e2 : leafV zs = sumL (leafB zs) := by unfold leafV; rw [if_neg hb, e3]
      rw [e1, e2]
      exact sumOfBytes_ok a' c' (leafB zs) w1 H (by rw [e3]; simp [leafL]; omega)
  have HS : Hid (_) := hS
  clear hS
  go_enter Tryd.func72, Tryd.ntmps72
  go_wp2_with fail
  refine (implLeafBytes_any a cap zs _ (hT.alloc _) (h.alloc _)).mono ?_
  rintro r u1 ⟨a', c', rfl, hown, hb1⟩
  have H := has_of_own hown (leafB_wf h.2.1)
  have hz1 := hb1.size
  simp at hz1
  go_wp2_with fail
  refine (HS.out _ a' c' H).mono ?_
  rintro r u2 ⟨rfl, hb2⟩
  have hB := hb1.trans (hb2.mono hb1.size)
  obtain ⟨hc1, hf1⟩ := bcell hB
  have hz2 := hB.size
  simp at hz2
  go_wp2
  refine bodyPost_ret (v := .agg #[.int .i64 (leafC zs), .int .i64 (leafV zs)]) (by simp [results, Tryd.results72, go_sem, hc1]) rfl ⟨rfl, ?_⟩
  repeat (first | exact Below.refl _ _ | (refine Below.alloc ?_ (by (try simp) <;> omega) _) | (refine Below.setCell ?_ (by (try simp) <;> omega) _) | (refine Below.trans ?_ (hB.mono (by (try simp) <;> omega))))

set_option maxHeartbeats 1000000 in
theorem implNodeSum_any (a b : Int) (w : World) (hT : Tab w) :
    Calls Tryd.prog 33 #[.int .i64 a, .int .i64 b] w fun r w' => r = .returned (.agg #[.int .i64 (nodeC a b), .int .i64 (nodeV a b)]) ∧ Below w.heap.size w w' := by
  have hS : ∀ (w1 : World) a' c', Has w1 .u8 a' (nodeB a b).length (nodeB a b) → Calls Tryd.prog 77 #[.agg #[.int .i64 (nodeC a b), .slice a' (nodeB a b).length c']] w1 fun r w' => r = .returned (.agg #[.int .i64 (nodeC a b), .int .i64 (nodeV a b)]) ∧ Below w1.heap.size w1 w' := by
    intro w1 a' c' H
    by_cases hb : (0 ≤ a ∧ a ≤ 65520) ∧ 0 ≤ b ∧ b ≤ 65520
    · have e1 : nodeC a b = 0 := by unfold nodeC; rw [if_pos hb]
      have e3 : nodeB a b = nodeL a b := by unfold nodeB; rw [if_pos hb]
      have e2 : nodeV a b = sumL (nodeB a b) := by unfold nodeV; rw [if_pos hb, e3]
      rw [e1, e2]
      exact sumOfBytes_ok a' c' (nodeB a b) w1 H (by rw [e3]; simp [nodeL])
    · have e1 : nodeC a b = 3 := by unfold nodeC; rw [if_neg hb]
      have e2 : nodeV a b = 0 := by unfold nodeV; rw [if_neg hb]
      rw [e1, e2]
      exact sumOfBytes_bad 3 (by decide) _ ⟨_, _, _, rfl⟩ w1
  have HS : Hid (_) := hS
  clear hS
  go_enter Tryd.func33, Tryd.ntmps33
  go_wp2_with fail
  refine (implNodeBytes_any a b _ (hT.alloc _)).mono ?_
  rintro r u1 ⟨a', c', rfl, hown, hb1⟩
  have H := has_of_own hown (nodeB_wf a b)
  have hz1 := hb1.size
  simp at hz1
  go_wp2_with fail
  refine (HS.out _ a' c' H).mono ?_
  rintro r u2 ⟨rfl, hb2⟩
  have hB := hb1.trans (hb2.mono hb1.size)
  obtain ⟨hc1, hf1⟩ := bcell hB
  have hz2 := hB.size
  simp at hz2
  go_wp2
  refine bodyPost_ret (v := .agg #[.int .i64 (nodeC a b), .int .i64 (nodeV a b)]) (by simp [results, Tryd.results33, go_sem, hc1]) rfl ⟨rfl, ?_⟩
  repeat (first | exact Below.refl _ _ | (refine Below.alloc ?_ (by (try simp) <;> omega) _) | (refine Below.setCell ?_ (by (try simp) <;> omega) _) | (refine Below.trans ?_ (hB.mono (by (try simp) <;> omega))))

theorem slot_wf {k v : Int} (k0 : 0 ≤ k) (k1 : k ≤ 63) (v0 : 0 ≤ v) (v1 : v ≤ 65535) : ∀ n ∈ slotL k v, (Lit.int .u8 n).wf = true := by
  intro n hn
  simp [slotL] at hn
  exact wf_u8 (by omega) (by omega)

end Go.Proofs.YtkjhcblfkpknlaaDoor
