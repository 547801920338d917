/- Contracts: the model's draw of a list of measures. -/
import Derived.Test.YtinjppnnggeebaaDraw
namespace Go.Proofs.Ytinjppnnggeebaa
open Go.ChangeShapes Go.WideShapes Go.ChangeAt Go.RowKit
set_option linter.unusedVariables false

theorem Only.grown {s : Nat} {w w' : World} (h : Only s w w') : w.grownBy w' (some s) := ⟨h.os, h.tape, h.output, h.size, fun k hk hn => h.block k hk (fun e => hn (by rw [e]))⟩
theorem Only.then_below {s : Nat} {a b c : World} (h : Only s a b) (k : Below a.heap.size b c) : Only s a c :=
  ⟨k.os.trans h.os, k.tape.trans h.tape, k.output.trans h.output, Nat.le_trans h.size k.size, fun i hi hn => (k.block i hi).trans (h.block i hi hn)⟩
theorem SrcAt.below' {w w' : World} {B s : Nat} {a : Option Addr} {len cap : Nat} {zs : List Int} {t : Nat} {N : Nat} (h : SrcAt w B s a len cap zs t) (hb : Below N w w') (hN : s < N) : SrcAt w' B s a len cap zs t :=
  ⟨(hb.cell (p := ⟨s, 0, none⟩) hN).trans h.code, (hb.cell (p := ⟨s, 1, none⟩) hN).trans h.at', (hb.frozen (p := ⟨s, 1, none⟩) hN).trans h.free, h.base, Nat.lt_of_lt_of_le h.lt hb.size, h.len', h.small, h.wf,
    h.cells.imp id fun ⟨b, off, ha, hl, hc⟩ => ⟨b, off, ha, hl, fun i hi => (hb.cell (p := ⟨b, off + i, none⟩) (by have := h.base; show b < _; omega)).trans (hc i hi)⟩⟩
theorem own_only {w w' : World} {base e size n s : Nat} {v : Value} {xs : List Value} (h : w.ownsRow base e size v n xs) (ho : Only s w w') (hs : s < base) : w'.ownsRow base e size v n xs := by
  refine h.kept ho.grown ?_
  cases hv : v.ownBlock with
  | none => exact .inl rfl
  | some g => exact .inr (by have := h.lt g hv; intro e; simp at e; omega)
/-- What is owned reads as a list. -/
theorem has_own {w : World} {base e n : Nat} {v : Value} {ys : List Int} (h : w.ownsRow base e 1 v n (ys.map (.int .i64))) (hw : ∀ y ∈ ys, (Lit.int .i64 y).wf = true) : ∃ a c, v = .slice a ys.length c ∧ Has w .i64 a ys.length ys := by
  have hl : ys.length = n := by have := h.1; simpa using this
  subst hl
  rcases h.2 with ⟨rfl, h0⟩ | ⟨g, cap, cur, rfl, hb, hg, h1, h2, h3, h4⟩
  · exact ⟨none, 0, by rw [h0], ⟨rfl, hw, .inl h0⟩⟩
  · exact ⟨_, cap, rfl, Has.of_own h (Array.getElem?_eq_some_iff.1 hg).1 hw⟩
theorem wf_i64 {x : Int} (h0 : -9223372036854775808 ≤ x) (h1 : x ≤ 9223372036854775807) : (Lit.int .i64 x).wf = true := WalkArith.wf_i64 ⟨h0, h1⟩

theorem one_new (w : World) (x : Value) (T : Nat) : ∀ (j : Nat) (u : Value), [x][j]? = some u → (w.alloc (.cells #[x] T)).cell? ((⟨w.heap.size, 0, none⟩ : Addr).add j) = some u := by
  intro j u hj
  match j, hj with
  | 0, hj => simp at hj; subst hj; simp [Addr.add]

set_option maxHeartbeats 2000000 in
theorem many_any (w : World) (B s : Nat) (a : Option Addr) (len cap : Nat) (zs : List Int) (t : Nat) (h : SrcAt w B s a len cap zs t) (ht : t ≤ 800000) :
    Calls Try.prog 39 #[.pointer (some ⟨s, 0, none⟩)] w fun e w' => ∃ (v : Value) (ys : List Int), e = .returned v ∧ w'.ownsRow w.heap.size 2 1 v ys.length (ys.map (.int .i64)) ∧ (∀ y ∈ ys, (Lit.int .i64 y).wf = true) ∧ Only s w w' := by
  obtain ⟨i0, hi, hz0, hz1, hz2⟩ := info_parts info64
  have hlt := h.lt
  have hown0 : (w.alloc (.cells #[] 2)).ownsRow w.heap.size 2 1 (.slice (some ⟨w.heap.size, 0, none⟩) 0 0) 0 (([] : List Int).map (.int .i64)) := World.ownsRow_lit w #[] 0 (Nat.le_refl _) (Nat.zero_le _) rfl
  go_enter Try.func39, Try.ntmps39
  go_wp2_with (go_at_call 44; refine (next_any _ B s a len cap zs t _ (h.alloc _) (by omega) (by omega) (by omega)).mono ?_; rintro e w1 ⟨k, rfl, hk0, hk1, hs1, ho1⟩; obtain ⟨j0, rfl⟩ := Int.eq_ofNat_of_zero_le hk0)
  have hown1 := own_only hown0 ho1 hlt
  have hoW1 := ((Only.refl s w).alloc _).trans ho1
  clear hown0 ho1 h
  go_loopw [3, 4] (fun v i wr => ∃ (j : Nat) (ys : List Int) (t' : Nat), i = .int .i64 j ∧ ys.length + j ≤ 5 ∧ t' ≤ t + 1 + 4 * ys.length ∧ SrcAt wr B s a len cap zs t' ∧ wr.ownsRow w.heap.size 2 1 v ys.length (ys.map (.int .i64)) ∧ (∀ y ∈ ys, (Lit.int .i64 y).wf = true) ∧ Only s w wr) (fun _ i _ => (intOf i).toNat)
  case atStart => exact ⟨j0, [], t + 1, rfl, by simp; omega, by simp, hs1, hown1, by simp, hoW1⟩
  case round =>
    clear hs1 hown1 hoW1
    obtain ⟨j, ys, t', rfl, hj5, ht', hs, hown, hwf, ho⟩ := hrel
    by_cases hj : 0 < j
    · have hj' : (0 : Int) < (j : Int) := by omega
      go_wp2_with (first | (go_at_call 27; refine (draw_any _ B s a len cap zs t' hs (by omega)).mono ?_; rintro e w2 ⟨x, rfl, hx0, hx1, hs2, ho2⟩; have hown2 := own_only hown ho2 hlt; have hz2' := ho2.size; have hzW := ho.size) | (at_builtin; refine wpList_append_own _ rfl _ _ 37 rfl w.heap.size 2 i0 (.int .i64 0) 1 8 Try.underlying37 hi hz0 hz1 hz2 rfl (by decide) _ _ _ rfl (hown2.alloc _) ⟨w2.heap.size, 0, none⟩ 1 1 [.int .i64 x] rfl rfl (one_new _ _ _) (by intro u hu; simp at hu; subst hu; rfl) (by unfold maxLen; omega) (by omega) (by simp; omega) ?_; intro v' w3 hown3 hgrow _h4))
      have hbel : Below w.heap.size (w2.alloc (.cells #[.int .i64 x] 2)) w3 := (Below.refl _ _).grown hgrow (by simp; omega) (fun k hk => (hown2.lt k hk).1)
      have hs3 := (hs2.alloc (.cells #[.int .i64 x] 2)).below' hbel hlt
      have ho3 := ((ho.trans ho2).alloc _).then_below hbel
      have hown3' : w3.ownsRow w.heap.size 2 1 v' (ys ++ [x]).length ((ys ++ [x]).map (.int .i64)) := by simpa using hown3
      clear hgrow hown2 hs2 ho2 hown hs ho hown3
      go_wp2
      go_roundw
      case rel => exact ⟨j - 1, ys ++ [x], t' + 4, by go_num, by simp; omega, by simp; omega, hs3, hown3', by intro y hy; simp at hy; rcases hy with hy | rfl; exact hwf y hy; exact wf_i64 hx0 hx1, ho3⟩
      case measure => simp [intOf]; omega
    · have hj' : (j : Int) ≤ 0 := by omega
      have hlit : (madeCells (Value.int .i64 0).cells (41 * 1)).toList = (List.replicate 41 (0 : Int)).map (.int .i64) := by
        have := part_zero (List.replicate 41 (0 : Int))
        simpa [part] using this
      have HL : Hid (_) := hlit
      clear hlit
      have hzW := ho.size
      go_wp2_with (first | (go_at_call 45; refine (chance_any _ B s a len cap zs t' _ hs (by omega) (by omega) (by omega)).mono ?_; rintro e w2 ⟨c, rfl, hs2, ho2⟩; have hz2' := ho2.size) | (at_make; refine wpList_make_full _ rfl _ _ 37 rfl w.heap.size 2 i0 (.int .i64 0) 1 Try.underlying37 hi hz0 hz1 _ _ _ _ 41 rfl rfl rfl rfl (by rw [hz2]; omega) (by unfold maxLen; omega) (by omega) ?_; intro w3 hown3 hgrow3))
      · go_ret
        have hbel : Below w.heap.size w2 w3 := (Below.refl _ _).grown hgrow3 (by omega) (by intro k hk; cases hk)
        exact ⟨_, List.replicate 41 0, rfl, by rw [← HL.out]; exact hown3, by intro y hy; rw [List.eq_of_mem_replicate hy]; rfl, (ho.trans ho2).then_below hbel⟩
      · go_ret
        exact ⟨_, ys, rfl, own_only hown ho2 hlt, hwf, ho.trans ho2⟩

theorem drawLeastOf_any (w : World) (a : Option Addr) (len cap : Nat) (zs : List Int) (h : Has w .u8 a len zs) (hl : len ≤ 1048576) :
    Calls Try.prog 22 #[.slice a len cap] w fun e w' => ∃ a' c' ys, e = .returned (.slice a' (List.length ys) c') ∧ Has w' .i64 a' ys.length ys ∧ Below w.heap.size w w' := by
  go_enter Try.func22, Try.ntmps22
  go_wp2_with (first | (go_at_call 28; refine (source_any _ a len cap zs h hl).mono ?_; rintro e w1 ⟨rfl, hs1, hb1, hz1⟩) | (go_at_call 39; refine (many_any _ _ _ a len cap zs 0 hs1 (by omega)).mono ?_; rintro e w2 ⟨v, ys, rfl, hown, hwf, ho2⟩))
  go_ret
  obtain ⟨a', c', hv, hh⟩ := has_own hown hwf
  exact ⟨a', c', ys, by rw [← hv]; rfl, hh, after_source hb1 ho2⟩

end Go.Proofs.Ytinjppnnggeebaa
