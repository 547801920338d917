/- Contracts of the program's chapter 2: the bytes of leaves, nodes and slots, and their sums. -/
import Derived.Test.YtlmjppglaolccaaDoorIPiece
namespace Go.Proofs.YtlmjppglaolccaaDoor
open Go.ChangeShapes Go.WideShapes Go.ChangeAt Go.RowKit
set_option linter.unusedVariables false
set_option linter.unusedSimpArgs false

theorem isSum_any (v : Int) (w : World) : Calls Tryd.prog 37 #[.int .i64 v] w fun r w' => r = .returned (.bool (decide (0 ≤ v ∧ v ≤ 65520))) ∧ w' = w := by
  by_cases h : 0 ≤ v
  · go_enter Tryd.func37, Tryd.ntmps37
    go_wp2
    go_ret
    exact ⟨ret_bool (by simp [h]), rfl⟩
  · go_enter Tryd.func37, Tryd.ntmps37
    go_wp2
    go_ret
    exact ⟨ret_bool (by simp; omega), rfl⟩

theorem twoBytes_any (v : Int) (w : World) (h0 : 0 ≤ v) (h1 : v ≤ 65535) :
    Calls Tryd.prog 80 #[.int .i64 v] w fun r w' => r = .returned (.slice (some ⟨w.heap.size, 0, none⟩) 2 2) ∧ w' = w.alloc (.cells #[.int .u8 (v / 256), .int .u8 (v % 256)] 5) := by
  go_enter Tryd.func80, Tryd.ntmps80
  go_wp2
  go_ret
  exact ⟨rfl, rfl⟩

/-- The code and the bytes of a leaf, of a node. -/
def leafC (zs : List Int) : Int := if 250 < zs.length then 2 else 0
def leafB (zs : List Int) : List Int := if 250 < zs.length then [] else leafL zs
def nodeC (a b : Int) : Int := if (0 ≤ a ∧ a ≤ 65520) ∧ 0 ≤ b ∧ b ≤ 65520 then 0 else 3
def nodeB (a b : Int) : List Int := if (0 ≤ a ∧ a ≤ 65520) ∧ 0 ≤ b ∧ b ≤ 65520 then nodeL a b else []
theorem leafB_wf {zs : List Int} (h : ∀ n ∈ zs, (Lit.int .u8 n).wf = true) : ∀ n ∈ leafB zs, (Lit.int .u8 n).wf = true := by
  unfold leafB
  split
  · simp
  · exact leaf_wf h
theorem nodeB_wf (a b : Int) : ∀ n ∈ nodeB a b, (Lit.int .u8 n).wf = true := by
  unfold nodeB
  split
  · exact node_wf (by omega) (by omega) (by omega) (by omega)
  · simp
theorem nil_own (w : World) (base e : Nat) : w.ownsRow base e 1 (.slice none 0 0) 0 (([] : List Int).map (.int .u8)) := ⟨rfl, .inl ⟨rfl, rfl⟩⟩
theorem own_set {w : World} {base e n g o : Nat} {a : Option Addr} {c : Nat} {xs : List Value} (h : w.ownsRow base e 1 (.slice a n c) n xs) (hg : g < base) (u : Value) : (w.setCell ⟨g, o, none⟩ u).ownsRow base e 1 (.slice a n c) n xs := by
  refine ⟨h.1, h.2.imp id ?_⟩
  rintro ⟨g', cap, cur, e1, e2, e3, e4⟩
  exact ⟨g', cap, cur, e1, e2, (Below.heap_setCell w ⟨g, o, none⟩ u g' (by show g' ≠ g; omega)).trans e3, e4⟩
theorem own_mono {w : World} {base base' e n : Nat} {v : Value} {xs : List Value} (h : w.ownsRow base e 1 v n xs) (hb : base' ≤ base) : w.ownsRow base' e 1 v n xs := by
  refine ⟨h.1, h.2.imp id ?_⟩
  rintro ⟨g', cap, cur, e1, e2, e4⟩
  exact ⟨g', cap, cur, e1, by omega, e4⟩

theorem has_two (w : World) {x y : Int} (T : Nat) (hx : 0 ≤ x ∧ x ≤ 255) (hy : 0 ≤ y ∧ y ≤ 255) : Has (w.alloc (.cells #[.int .u8 x, .int .u8 y] T)) .u8 (some ⟨w.heap.size, 0, none⟩) [x, y].length [x, y] := by
  refine ⟨rfl, ?_, .inr ⟨w.heap.size, 0, rfl, by simp, ?_⟩⟩
  · intro n hn
    simp at hn
    rcases hn with rfl | rfl
    · exact wf_u8 hx.1 hx.2
    · exact wf_u8 hy.1 hy.2
  · intro i hi
    match i, hi with
    | 0, _ => simp [go_sem]
    | 1, _ => simp [go_sem]
theorem has_one (w : World) {x : Int} (T : Nat) (hx : 0 ≤ x ∧ x ≤ 255) : Has (w.alloc (.cells #[.int .u8 x] T)) .u8 (some ⟨w.heap.size, 0, none⟩) [x].length [x] := by
  refine ⟨rfl, ?_, .inr ⟨w.heap.size, 0, rfl, by simp, ?_⟩⟩
  · intro n hn
    simp at hn
    subst hn
    exact wf_u8 hx.1 hx.2
  · intro i hi
    match i, hi with
    | 0, _ => simp [go_sem]

set_option maxHeartbeats 2000000 in
theorem implNodeBytes_any (a b : Int) (w : World) (hT : Tab w) :
    Calls Tryd.prog 77 #[.int .i64 a, .int .i64 b] w fun r w' => ∃ a' c', r = .returned (.agg #[.int .i64 (nodeC a b), .slice a' (nodeB a b).length c']) ∧ w'.ownsRow w.heap.size 5 1 (.slice a' (nodeB a b).length c') (nodeB a b).length ((nodeB a b).map (.int .u8)) ∧ Below w.heap.size w w' := by
  unfold nodeC nodeB
  have tok1 : True := trivial
  by_cases ha : 0 ≤ a ∧ a ≤ 65520
  · have hda : decide (0 ≤ a ∧ a ≤ 65520) = true := by simpa using ha
    by_cases hb : 0 ≤ b ∧ b ≤ 65520
    · have hdb : decide (0 ≤ b ∧ b ≤ 65520) = true := by simpa using hb
      rw [if_pos ⟨ha, hb⟩, if_pos ⟨ha, hb⟩]
      have e : pieceL 1 [(some ⟨w.heap.size + 1, 0, none⟩, 2, [a / 256, a % 256]), (some ⟨w.heap.size + 1 + 1, 0, none⟩, 2, [b / 256, b % 256])] = nodeL a b := by simp [pieceL, nodeL]
      obtain ⟨a0, a1⟩ := ha
      obtain ⟨b0, b1⟩ := hb
      go_enter Tryd.func77, Tryd.ntmps77
      go_wp2_with (first | (go_at_call 37; have _t := tok1; refine (isSum_any a _).mono ?_; rintro r u ⟨rfl, rfl⟩; rw [hda]; clear tok1 _t) | (go_at_call 37; refine (isSum_any b _).mono ?_; rintro r u ⟨rfl, rfl⟩; rw [hdb]; have tok2 : True := trivial) | (go_at_call 80; have _t := tok2; refine (twoBytes_any a _ a0 (by omega)).mono ?_; rintro r u ⟨rfl, rfl⟩; clear tok2 _t) | (go_at_call 80; refine (twoBytes_any b _ b0 (by omega)).mono ?_; rintro r u ⟨rfl, rfl⟩))
      refine (pieceOf_any 1 (.inr (.inl rfl)) [(some ⟨w.heap.size + 1, 0, none⟩, 2, [a / 256, a % 256]), (some ⟨w.heap.size + 1 + 1, 0, none⟩, 2, [b / 256, b % 256])] (w.heap.size + 1 + 1 + 1) _ ((((hT.alloc _).alloc _).alloc _).alloc _) (by simp) ?hc ?hh (by simp) (by rw [e]; simp [nodeL])).mono ?_
      case hc =>
        intro i hi
        match i, hi with
        | 0, _ => simp [go_sem]
        | 1, _ => simp [go_sem]
      case hh =>
        intro i hi
        match i, hi with
        | 0, _ =>
          have hh0 := has_two (w.alloc (.cells #[.int .i64 0, .slice none 0 0] 98)) (x := a / 256) (y := a % 256) 5 (by omega) (by omega)
          have hh1 := (hh0.alloc (.cells #[.int .u8 (b / 256), .int .u8 (b % 256)] 5)).alloc (.cells #[.slice (some ⟨w.heap.size + 1, 0, none⟩) 2 2, .slice (some ⟨w.heap.size + 1 + 1, 0, none⟩) 2 2] 22)
          simpa using hh1
        | 1, _ =>
          have hh0 := has_two ((w.alloc (.cells #[.int .i64 0, .slice none 0 0] 98)).alloc (.cells #[.int .u8 (a / 256), .int .u8 (a % 256)] 5)) (x := b / 256) (y := b % 256) 5 (by omega) (by omega)
          have hh1 := hh0.alloc (.cells #[.slice (some ⟨w.heap.size + 1, 0, none⟩) 2 2, .slice (some ⟨w.heap.size + 1 + 1, 0, none⟩) 2 2] 22)
          simpa using hh1
      rw [e]
      rintro r u1 ⟨a', c', rfl, hown, hb1⟩
      have hz1 := hb1.size
      simp at hz1
      obtain ⟨hc1, hf1⟩ := bcell hb1
      have r0 := hc1 w.heap.size 0 (by simp; omega)
      have r1 := hc1 w.heap.size 1 (by simp; omega)
      have f0 := hf1 w.heap.size 0 (by simp; omega)
      have f1 := hf1 w.heap.size 1 (by simp; omega)
      simp [go_sem] at r0 r1 f0 f1
      go_wp2
      refine bodyPost_ret (v := .agg #[.int .i64 0, .slice a' (nodeL a b).length c']) (by simp [results, Tryd.results77, go_sem, r0, r1]) rfl ⟨_, _, rfl, ?_, ?_⟩
      · exact own_mono (own_set (own_set hown (by simp; omega) _) (by simp; omega) _) (by simp; omega)
      · repeat (first | exact Below.refl _ _ | (refine Below.alloc ?_ (by (try simp) <;> omega) _) | (refine Below.setCell ?_ (by (try simp) <;> omega) _) | (refine Below.trans ?_ (hb1.mono (by (try simp) <;> omega))))
    · have hdb : decide (0 ≤ b ∧ b ≤ 65520) = false := by simp; omega
      rw [if_neg (by omega), if_neg (by omega)]
      go_enter Tryd.func77, Tryd.ntmps77
      go_wp2_with (first | (go_at_call 37; have _t := tok1; refine (isSum_any a _).mono ?_; rintro r u ⟨rfl, rfl⟩; rw [hda]; clear tok1 _t) | (go_at_call 37; refine (isSum_any b _).mono ?_; rintro r u ⟨rfl, rfl⟩; rw [hdb]))
      refine bodyPost_ret (v := .agg #[.int .i64 3, .slice none 0 0]) (by simp [results, Tryd.results77, go_sem]) rfl ⟨_, _, rfl, nil_own _ _ _, ?_⟩
      repeat (first | exact Below.refl _ _ | refine Below.alloc ?_ (by (try simp) <;> omega) _ | refine Below.setCell ?_ (by (try simp) <;> omega) _)
  · have hda : decide (0 ≤ a ∧ a ≤ 65520) = false := by simp; omega
    rw [if_neg (by omega), if_neg (by omega)]
    go_enter Tryd.func77, Tryd.ntmps77
    go_wp2_with (go_at_call 37; refine (isSum_any a _).mono ?_; rintro r u ⟨rfl, rfl⟩; rw [hda])
    refine bodyPost_ret (v := .agg #[.int .i64 3, .slice none 0 0]) (by simp [results, Tryd.results77, go_sem]) rfl ⟨_, _, rfl, nil_own _ _ _, ?_⟩
    repeat (first | exact Below.refl _ _ | refine Below.alloc ?_ (by (try simp) <;> omega) _ | refine Below.setCell ?_ (by (try simp) <;> omega) _)

end Go.Proofs.YtlmjppglaolccaaDoor
