/- Two lists of pieces whose sums lead to one root are alike, or a clash is found. -/
import Derived.Test.YtklhkhlmhddmcaaDoorSPcA
import Derived.Test.YtklhkhlmhddmcaaDoorExc
import Derived.Test.YtklhkhlmhddmcaaDoorToClash
namespace Go.Proofs.YtklhkhlmhddmcaaDoor
open Go.ChangeShapes Go.WideShapes Go.ChangeAt Go.RowKit
set_option linter.unusedVariables false
set_option linter.unusedSimpArgs false

theorem lwBytesP_any (a b : Option Addr) (ca cb : Nat) (zs ys : List Int) (w : World) (ha : Has w .u8 a zs.length zs) (hb : Has w .u8 b ys.length ys) :
    Calls Tryd.prog 23 #[.slice a zs.length ca, .slice b ys.length cb] w fun r w' => r = .returned (.bool (decide (zs = ys))) ∧ w' = w := by
  have s1 := ha.str ca
  have s2 := hb.str cb
  have hst := str_beq ha.2.1 hb.2.1
  have HS : Hid (_) := hst
  clear hst
  go_enter Tryd.func23, Tryd.ntmps23
  go_wp2
  go_ret
  exact ⟨ret_bool HS.out, rfl⟩
theorem lpC_true : ∀ xs ys : List (List Int), xs.map (fun z => sumL (leafL z)) = ys.map (fun z => sumL (leafL z)) → lpC xs ys = none → xs = ys
  | [], [], _, _ => rfl
  | [], _ :: _, h, _ => by simp at h
  | _ :: _, [], h, _ => by simp at h
  | x :: xs, y :: ys, h, k => by
    simp only [List.map_cons, List.cons.injEq] at h
    unfold lpC at k
    obtain ⟨k1, k2⟩ := or_none k
    rw [leaf_inj (lookC_none k1 h.1), lpC_true xs ys h.2 k2]
theorem pk_true {rs qs : List Pc} (h : pkC rs qs = 0) (hX : pkX rs qs = none) : rs.map Pc.zs = qs.map Pc.zs := by
  obtain ⟨_, _, h3, _⟩ := pkC_zero h
  obtain ⟨_, _, g1, g2, g3⟩ := tkC_zero h3
  unfold pkX at hX
  rw [if_pos h] at hX
  obtain ⟨k1, k2⟩ := or_none hX
  have e := trC_true _ (smL rs) (smL qs) (Nat.le_refl _) g2 g1 g3 k1
  refine lpC_true _ _ ?_ k2
  rw [List.map_map, List.map_map]
  exact e

end Go.Proofs.YtklhkhlmhddmcaaDoor
