/- Contracts: the program's walk through the pieces of two lists. -/
import Derived.Test.YtklhkhlmhddmcaaDoorSPcA
import Derived.Test.YtklhkhlmhddmcaaDoorIWk
import Derived.Test.YtklhkhlmhddmcaaDoorITreeC
import Derived.Test.YtklhkhlmhddmcaaDoorIPcs
import Derived.Deep.DeepCutAuto
namespace Go.Proofs.YtklhkhlmhddmcaaDoor
open Go.ChangeShapes Go.WideShapes Go.ChangeAt Go.RowKit
set_option linter.unusedVariables false
set_option linter.unusedSimpArgs false

set_option maxHeartbeats 8000000 in
set_option maxRecDepth 100000 in
theorem pieceClash1_any (pa pb : Nat) (x y : Option Addr) (cx cy : Nat) (rs ts : List Pc) (n : Nat) (w : World) (hT : Tab w) (hn1 : rs.length = n) (hn2 : ts.length = n) (hn24 : n ≤ 24) (hx : HasP w x rs) (hy : HasP w y ts) (hz1 : ∀ r ∈ rs, r.zs.length ≤ 250) (hz2 : ∀ r ∈ ts, r.zs.length ≤ 250) (ca : w.cell? ⟨pa, 0, none⟩ = some (.slice x n cx)) (cb : w.cell? ⟨pb, 0, none⟩ = some (.slice y n cy)) (la : pa < w.heap.size) (lb : pb < w.heap.size) :
    Calls Tryd.prog 85 #[.pointer (some ⟨pa, 0, none⟩), .pointer (some ⟨pb, 0, none⟩)] w (WkE (lpC (rs.map Pc.zs) (ts.map Pc.zs)) w) := by
  have N1 : Hid (_) := hn1
  have N2 : Hid (_) := hn2
  have X1H : Hid (_) := hx
  have Y1H : Hid (_) := hy
  have Z1H : Hid (_) := hz1
  have Z2H : Hid (_) := hz2
  have HTT : Hid (Tab w) := hT
  have OLD : Hid (∀ wx : World, Below w.heap.size w wx → wx.cell? ⟨pa, 0, none⟩ = some (.slice x n cx) ∧ wx.cell? ⟨pb, 0, none⟩ = some (.slice y n cy)) := fun wx h => ⟨(h.cell (p := ⟨pa, 0, none⟩) la).trans ca, (h.cell (p := ⟨pb, 0, none⟩) lb).trans cb⟩
  clear hn1 hn2 hx hy hz1 hz2 hT la lb
  go_enter Tryd.func85, Tryd.ntmps85
  go_wp2_with fail
  go_loopw [5] (fun i wr => ∃ k : Nat, k ≤ n ∧ i = .int .i64 k ∧ lpC (rs.map Pc.zs) (ts.map Pc.zs) = lpC ((rs.map Pc.zs).drop k) ((ts.map Pc.zs).drop k) ∧ Below w.heap.size w wr) (fun i _ => n - (intOf i).toNat)
  case atStart => exact ⟨0, Nat.zero_le _, rfl, rfl, Below.refl _ _⟩
  case round =>
    clear ca cb
    obtain ⟨k, hk, rfl, hlp, BR⟩ := hrel
    by_cases hlt : k < n
    · have hn1 := N1.out
      have hn2 := N2.out
      have hx := X1H.out
      have hy := Y1H.out
      have hlt' : (k : Int) < (n : Int) := by omega
      have hk0 : (0 : Int) ≤ (k : Int) := by omega
      obtain ⟨b1, o1, hx1, hb1, hc1⟩ : ∃ b off, x = some ⟨b, off, none⟩ ∧ b < w.heap.size ∧ ∀ i (h : i < rs.length), w.cell? ⟨b, off + i, none⟩ = some (.slice rs[i].ad rs[i].zs.length rs[i].cap) := by
        rcases hx.1 with c | h
        · omega
        · exact h
      obtain ⟨b2, o2, hy1, hb2, hc2⟩ : ∃ b off, y = some ⟨b, off, none⟩ ∧ b < w.heap.size ∧ ∀ i (h : i < ts.length), w.cell? ⟨b, off + i, none⟩ = some (.slice ts[i].ad ts[i].zs.length ts[i].cap) := by
        rcases hy.1 with c | h
        · omega
        · exact h
      have hr1 := hx.2 (rs[k]'(by omega)) (List.getElem_mem _)
      have hr2 := hy.2 (ts[k]'(by omega)) (List.getElem_mem _)
      have hl1 := Z1H.out (rs[k]'(by omega)) (List.getElem_mem _)
      have hl2 := Z2H.out (ts[k]'(by omega)) (List.getElem_mem _)
      have HLP : Hid (lpC (rs.map Pc.zs) (ts.map Pc.zs) = (lookC (leafL (rs[k]'(by omega)).zs) (leafL (ts[k]'(by omega)).zs) <|> lpC ((rs.map Pc.zs).drop (k + 1)) ((ts.map Pc.zs).drop (k + 1)))) := by
        show _ = _
        rw [hlp, lpC_drop (by simp; omega) (by simp; omega)]
        simp
      have LL : Hid (∀ u : World, Below w.heap.size w u → Calls Tryd.prog 62 #[.slice (rs[k]'(by omega)).ad (rs[k]'(by omega)).zs.length (rs[k]'(by omega)).cap, .slice (ts[k]'(by omega)).ad (ts[k]'(by omega)).zs.length (ts[k]'(by omega)).cap] u (WkE (lookC (leafL (rs[k]'(by omega)).zs) (leafL (ts[k]'(by omega)).zs)) u)) := fun u hu => lookInLeaves_any _ _ _ _ _ _ u (HTT.out.below hu (Nat.le_refl _)) (hr1.1.below hu (Nat.le_refl _)) (hr2.1.below hu (Nat.le_refl _)) hl1 hl2
      have CA1 : ∀ wx : World, Below wr.heap.size wr wx → wx.cell? ⟨b1, o1 + k, none⟩ = some (.slice (rs[k]'(by omega)).ad (rs[k]'(by omega)).zs.length (rs[k]'(by omega)).cap) := fun wx h => ((BR.trans (h.mono BR.size)).cell (p := ⟨b1, o1 + k, none⟩) hb1).trans (hc1 k (by omega))
      have CA2 : ∀ wx : World, Below wr.heap.size wr wx → wx.cell? ⟨b2, o2 + k, none⟩ = some (.slice (ts[k]'(by omega)).ad (ts[k]'(by omega)).zs.length (ts[k]'(by omega)).cap) := fun wx h => ((BR.trans (h.mono BR.size)).cell (p := ⟨b2, o2 + k, none⟩) hb2).trans (hc2 k (by omega))
      subst hx1 hy1
      clear hx hy hc1 hc2 hr1 hr2 hl1 hl2 hlp hb1 hb2
      generalize lookC (leafL (rs[k]'(by omega)).zs) (leafL (ts[k]'(by omega)).zs) = X1 at *
      generalize (rs[k]'(by omega)).ad = d1 at *
      generalize (ts[k]'(by omega)).ad = d2 at *
      generalize (rs[k]'(by omega)).cap = p1 at *
      generalize (ts[k]'(by omega)).cap = p2 at *
      generalize (rs[k]'(by omega)).zs.length = m1 at *
      generalize (ts[k]'(by omega)).zs.length = m2 at *
      have c1 : ∀ wx : World, Below wr.heap.size wr wx → wx.cell? ⟨pa, 0, none⟩ = some (.slice (some ⟨b1, o1, none⟩) n cx) := fun wx h => (OLD.out _ (BR.trans (h.mono BR.size))).1
      have c2 : ∀ wx : World, Below wr.heap.size wr wx → wx.cell? ⟨pb, 0, none⟩ = some (.slice (some ⟨b2, o2, none⟩) n cy) := fun wx h => (OLD.out _ (BR.trans (h.mono BR.size))).2
      have WU : Hid (∀ wx : World, Below wr.heap.size wr wx → Below w.heap.size w wx) := fun wx h => BR.trans (h.mono BR.size)
      have U0 : Below wr.heap.size wr wr.drew := (Below.refl _ _).drew
      clear BR N1 N2 X1H Y1H Z1H Z2H hn1 hn2 hk
      go_wp2_with fail
      go_region_held2 (fun wx => Below wr.heap.size wr wx)
        ((first | exact U0 | exact U1))
        ((first | (go_at_call 62; refine (LL.out _ (WU.out _ U0)).mono ?_; rintro e ua ⟨hba, h⟩; have U1 : Below wr.heap.size wr ua := U0.trans (hba.mono U0.size); (rcases h with ⟨hn, rfl⟩ | hp); rotate_left; (obtain ⟨y, a1, k1, a2, k2, hX, rfl, OC⟩ := hp); (have hh := WkP.out (X := X1) (Z := lpC ((rs.map Pc.zs).drop (k + 1)) ((ts.map Pc.zs).drop (k + 1))) ⟨y, a1, k1, a2, k2, hX, rfl, OC⟩ hba (WU.out _ U0)); rw [← HLP.out] at hh; exact ⟨rfl, hh⟩) | fail))
      subst hn
      have HL : Hid (lpC (rs.map Pc.zs) (ts.map Pc.zs) = lpC ((rs.map Pc.zs).drop (k + 1)) ((ts.map Pc.zs).drop (k + 1))) := by show _ = _; rw [HLP.out]; rfl
      have W1 := WU.out _ U1
      clear HLP CA1 CA2 c1 c2 U0
      go_wp2
      go_roundw
      case rel => exact ⟨k + 1, by omega, by go_num, HL.out, W1⟩
      case measure => simp [intOf]; omega
    · have HL : Hid (lpC (rs.map Pc.zs) (ts.map Pc.zs) = none) := by
        show _ = _
        rw [hlp]
        exact lpC_end _ (by have := N1.out; simp; omega)
      clear hlp
      go_wp2
      go_end0
      rw [HL.out]
      exact WkE.ret BR

end Go.Proofs.YtklhkhlmhddmcaaDoor
