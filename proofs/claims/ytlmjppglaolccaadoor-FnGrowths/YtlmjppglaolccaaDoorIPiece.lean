/- Contracts of the program's chapter 2: pieces laid together out of parts. -/
import Derived.Test.YtlmjppglaolccaaDoorISum
import Derived.Test.YtlmjppglaolccaaDoorPiece
namespace Go.Proofs.YtlmjppglaolccaaDoor
open Go.ChangeShapes Go.WideShapes Go.ChangeAt Go.RowKit
set_option linter.unusedVariables false
set_option linter.unusedSimpArgs false

/-- The table of what begins a piece, as the program lays it. -/
def Tab (w : World) : Prop := 0 < w.heap.size ∧ w.cell? ⟨0, 0, none⟩ = some (.int .u8 0) ∧ w.cell? ⟨0, 1, none⟩ = some (.int .u8 1) ∧ w.cell? ⟨0, 2, none⟩ = some (.int .u8 2)
theorem Tab.below {w w' : World} (h : Tab w) {B : Nat} (hb : Below B w w') (hB : w.heap.size ≤ B) : Tab w' :=
  ⟨Nat.lt_of_lt_of_le h.1 hb.size, (hb.cell (p := ⟨0, 0, none⟩) (Nat.lt_of_lt_of_le h.1 hB)).trans h.2.1, (hb.cell (p := ⟨0, 1, none⟩) (Nat.lt_of_lt_of_le h.1 hB)).trans h.2.2.1, (hb.cell (p := ⟨0, 2, none⟩) (Nat.lt_of_lt_of_le h.1 hB)).trans h.2.2.2⟩
theorem Tab.alloc {w : World} (h : Tab w) (O : Obj) : Tab (w.alloc O) := h.below ((Below.refl _ _).alloc (Nat.le_refl _) O) (Nat.le_refl _)

/-- What begins a piece, and its parts: each an address, a capacity, its bytes. -/
def pieceL (kd : Nat) (ps : List (Option Addr × Nat × List Int)) : List Int := (kd : Int) :: (ps.map fun p => p.2.2).flatten
theorem pieceL_succ (kd : Nat) (ps : List (Option Addr × Nat × List Int)) (k : Nat) (h : k < ps.length) : pieceL kd (ps.take (k + 1)) = pieceL kd (ps.take k) ++ ps[k].2.2 := by
  unfold pieceL
  rw [List.take_succ_eq_append_getElem h, List.map_append, List.flatten_append]
  simp
theorem pieceL_le (kd : Nat) (ps : List (Option Addr × Nat × List Int)) (k : Nat) : (pieceL kd (ps.take k)).length ≤ (pieceL kd ps).length := by
  have e : pieceL kd ps = pieceL kd (ps.take k) ++ ((ps.drop k).map fun p => p.2.2).flatten := by
    have := List.take_append_drop k ps
    conv => lhs; rw [← this]
    unfold pieceL
    rw [List.map_append, List.flatten_append]
    rfl
  rw [e, List.length_append]
  omega

set_option maxHeartbeats 2000000 in
theorem pieceOf_any (kd : Nat) (hk : kd = 0 ∨ kd = 1 ∨ kd = 2) (ps : List (Option Addr × Nat × List Int)) (g : Nat) (w : World) (hT : Tab w) (hg : g < w.heap.size)
    (hcell : ∀ i (h : i < ps.length), w.cell? ⟨g, i, none⟩ = some (.slice ps[i].1 ps[i].2.2.length ps[i].2.1)) (hps : ∀ i (h : i < ps.length), Has w .u8 ps[i].1 ps[i].2.2.length ps[i].2.2) (hn : ps.length ≤ 100) (hl : (pieceL kd ps).length ≤ 2097152) :
    Calls Tryd.prog 79 #[.int .i64 kd, .slice (some ⟨g, 0, none⟩) ps.length ps.length] w fun r w' => ∃ a' c', r = .returned (.slice a' (pieceL kd ps).length c') ∧ w'.ownsRow w.heap.size 5 1 (.slice a' (pieceL kd ps).length c') (pieceL kd ps).length ((pieceL kd ps).map (.int .u8)) ∧ Below w.heap.size w w' := by
  obtain ⟨i0, hi, hz0, hz1, hz2⟩ := info_parts info8
  obtain ⟨t0, t1, t2, t3⟩ := hT
  have hown0 : (w.alloc (.cells #[.int .u8 kd] 5)).ownsRow w.heap.size 5 1 (.slice (some ⟨w.heap.size, 0, none⟩) 1 1) 1 [.int .u8 kd] := World.ownsRow_lit w #[.int .u8 kd] 1 (Nat.le_refl _) (by unfold maxLen; omega) rfl
  have hend : pieceL kd (ps.take ps.length) = pieceL kd ps := by rw [List.take_length]
  have HE : Hid (_) := hend
  have hstart : pieceL kd (ps.take 0) = [(kd : Int)] := by simp [pieceL]
  have HSt : Hid (_) := hstart
  clear hend hstart
  have hkk : (kd : Int) < 3 := by omega
  have ht : w.cell? ⟨0, kd, none⟩ = some (.int .u8 kd) := by rcases hk with rfl | rfl | rfl <;> assumption
  clear t1 t2 t3
  have HL : Hid (_) := hl
  clear hl hk
  go_enter Tryd.func79, Tryd.ntmps79
  go_wp2
  go_loopw [5, 14] (fun v i wr => ∃ (k : Nat) (a' : Option Addr) (c' : Nat), k ≤ ps.length ∧ i = .int .i64 k ∧ v = .slice a' (pieceL kd (ps.take k)).length c' ∧ wr.ownsRow w.heap.size 5 1 (.slice a' (pieceL kd (ps.take k)).length c') (pieceL kd (ps.take k)).length ((pieceL kd (ps.take k)).map (.int .u8)) ∧ Below w.heap.size w wr) (fun _ i _ => ps.length - (intOf i).toNat)
  case atStart =>
    refine ⟨0, some ⟨w.heap.size, 0, none⟩, 1, Nat.zero_le _, rfl, ?_, ?_, ?_⟩
    · rw [HSt.out]; rfl
    · rw [HSt.out]; exact hown0
    · exact (Below.refl _ _).alloc (Nat.le_refl _) _
  case round =>
    obtain ⟨k, a', c', hk, rfl, rfl, hown, hbel⟩ := hrel
    by_cases hlt : k < ps.length
    · have hlt' : (k : Int) < (ps.length : Int) := by omega
      have hx : wr.cell? ⟨g, k, none⟩ = some (.slice ps[k].1 ps[k].2.2.length ps[k].2.1) := (hbel.cell (p := ⟨g, k, none⟩) hg).trans (hcell k hlt)
      have hh : Has wr .u8 ps[k].1 ps[k].2.2.length ps[k].2.2 := (hps k hlt).below hbel (Nat.le_refl _)
      have hS := pieceL_succ kd ps k hlt
      have hle := pieceL_le kd ps (k + 1)
      rw [hS, List.length_append] at hle
      have hln := HL.out
      have hpos : 0 < (pieceL kd (ps.take k)).length := by simp [pieceL]
      generalize ps[k] = p at hx hh hS hle
      obtain ⟨ad, cp, zs⟩ := p
      simp only at hx hh hS hle
      generalize pieceL kd (ps.take k) = cur at hown hS hle hpos
      have HS : Hid (_) := hS
      clear hS hcell hps ht hown0
      obtain ⟨gg, rfl, hcc⟩ : ∃ gg, a' = some ⟨gg, 0, none⟩ ∧ cur.length ≤ c' := by
        rcases hown.2 with ⟨e, e0⟩ | ⟨gg, _, _, e, _, _, e2, _⟩
        · omega
        · simp at e; exact ⟨gg, e.1, by omega⟩
      cases ad with
      | none =>
        have h0 : zs.length = 0 := by
          rcases hh.2.2 with c | ⟨_, _, c, _⟩
          · exact c
          · cases c
        obtain rfl : zs = [] := List.eq_nil_of_length_eq_zero h0
        clear h0 hh
        simp only [List.length_nil] at hx
        go_wp2
        go_roundw
        case rel =>
          refine ⟨k + 1, some ⟨gg, 0, none⟩, c', by omega, by go_num, ?_, ?_, hbel⟩
          · rw [HS.out, List.append_nil]
          · rw [HS.out, List.append_nil]; exact hown
        case measure => simp [intOf]; omega
      | some ad =>
        have H1 : Hid (∀ j u, (zs.map (.int .u8))[j]? = some u → wr.cell? (ad.add j) = some u) := hh.news
        clear hh
        go_wp2_with (at_builtin; (refine wpList_append_own _ rfl _ _ 22 rfl w.heap.size 5 i0 (.int .u8 0) 1 1 Tryd.underlying22 hi hz0 hz1 hz2 rfl (by decide) _ _ _ rfl hown ad zs.length cp (zs.map (.int .u8)) rfl (by simp) H1.out (by intro u hu; simp at hu; obtain ⟨n, _, rfl⟩ := hu; rfl) (by unfold maxLen; omega) (by omega) (by have := hbel.size; omega) ?_); intro v' w3 hown3 hgrow _h4)
        obtain ⟨a2, c2, rfl⟩ := own_row_shape hown3
        go_roundw
        case rel =>
          refine ⟨k + 1, a2, c2, by omega, by go_num, ?_, ?_, ?_⟩
          · rw [HS.out, List.length_append]
          · rw [HS.out, List.length_append, List.map_append]; exact hown3
          · exact hbel.grown hgrow hbel.size (fun k hk => (hown.lt k hk).1)
        case measure => simp [intOf]; omega
    · have hkk : k = ps.length := by omega
      have HK : Hid (k = ps.length) := hkk
      clear hkk
      go_wp2
      go_ret
      rw [HK.out, HE.out] at hown
      refine ⟨a', c', ?_, hown, hbel⟩
      rw [HK.out, HE.out]
      rfl

end Go.Proofs.YtlmjppglaolccaaDoor
