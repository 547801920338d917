/- Contracts of the model of chapter 2: sums of pieces. -/
import Derived.Test.YtnlipmfhilgipabBytes
import Derived.Test.YtnlipmfhilgipabKeep
namespace Go.Proofs.Ytnlipmfhilgipab
open Go.ChangeShapes Go.WideShapes Go.ChangeAt Go.RowKit
set_option linter.unusedVariables false
set_option linter.unusedSimpArgs false

def sumStep (n b : Int) : Int := (n * 137 + b + 1) % 65521
def sumL (zs : List Int) : Int := zs.foldl sumStep 11
theorem sum_bd (zs : List Int) : 0 ≤ sumL zs ∧ sumL zs ≤ 65520 := by
  unfold sumL
  have : ∀ (l : List Int) (n : Int), 0 ≤ n ∧ n ≤ 65520 → 0 ≤ l.foldl sumStep n ∧ l.foldl sumStep n ≤ 65520 := by
    intro l
    induction l with
    | nil => intro n h; exact h
    | cons x l ih => intro n h; exact ih _ (by unfold sumStep; omega)
  exact this zs 11 (by omega)
theorem sum_succ (zs : List Int) (k : Nat) (h : k < zs.length) : sumL (zs.take (k + 1)) = (sumL (zs.take k) * 137 + zs[k] + 1) % 65521 := by
  unfold sumL; rw [List.take_succ_eq_append_getElem h, List.foldl_append]; rfl

theorem Has.news {w : World} {k : IntKind} {ad : Addr} {zs : List Int} (h : Has w k (some ad) zs.length zs) : ∀ (j : Nat) (u : Value), (zs.map (.int k))[j]? = some u → w.cell? (ad.add j) = some u := by
  intro j u hu
  have hj : j < zs.length := by
    rcases Nat.lt_or_ge j zs.length with c | c
    · exact c
    · rw [List.getElem?_eq_none (by simpa using c)] at hu; cases hu
  rcases h.2.2 with c | ⟨b, off, hb, _, hc⟩
  · omega
  · have e := hc j hj
    simp at hb
    subst hb
    have hu' : Value.int k zs[j] = u := by simpa [hj] using hu
    rw [← hu']
    by_cases h0 : j = 0
    · subst h0; simpa [Addr.add, List.getD, hj] using e
    · simpa [Addr.add, List.getD, hj, h0] using e

end Go.Proofs.Ytnlipmfhilgipab
