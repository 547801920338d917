/- Plain facts on heads: their fault, their bytes, what is read; the fault of a signed one. -/
import Derived.Test.YtffidkoejlebeaaDoorKyH
import Derived.Test.YtffidkoejlebeaaDoorKyD
import Derived.Test.YtffidkoejlebeaaDoorPiece
namespace Go.Proofs.YtffidkoejlebeaaDoor
open Go.ChangeShapes Go.WideShapes Go.ChangeAt Go.RowKit
set_option linter.unusedVariables false
set_option linter.unusedSimpArgs false

/-- A head is as it should be. -/
def hdB (z r m k : Int) : Bool := decide ((0 ≤ z ∧ z ≤ 24) ∧ (0 ≤ r ∧ r ≤ 65520) ∧ (0 ≤ m ∧ m ≤ 65520) ∧ 0 ≤ k ∧ k ≤ 7)
theorem hdB_iff {z r m k : Int} : hdB z r m k = true ↔ ((0 ≤ z ∧ z ≤ 24) ∧ (0 ≤ r ∧ r ≤ 65520) ∧ (0 ≤ m ∧ m ≤ 65520) ∧ 0 ≤ k ∧ k ≤ 7) := decide_eq_true_iff
def hdF (z r m k : Int) : Int := if hdB z r m k = true then 0 else 3
theorem hdF_zero {z r m k : Int} (h : hdF z r m k = 0) : hdB z r m k = true := by unfold hdF at h; split at h; assumption; omega
/-- The bytes of a head. -/
def hdL (z r m k : Int) : List Int := [5, z, r / 256, r % 256, m / 256, m % 256, k]
theorem hdL_len (z r m k : Int) : (hdL z r m k).length = 7 := rfl
theorem hdL_wf {z r m k : Int} (h : hdB z r m k = true) : ∀ n ∈ hdL z r m k, (Lit.int .u8 n).wf = true := by
  have := hdB_iff.1 h
  intro n hn
  simp [hdL] at hn
  exact wf_u8 (by omega) (by omega)
def hdP (z r m k : Int) : List Int := if hdB z r m k = true then hdL z r m k else []
def hdV (z r m k : Int) : Int := sumL (hdL z r m k)
def hsV (z r m k : Int) : Int := if hdB z r m k = true then hdV z r m k else 0
theorem hdV_bd (z r m k : Int) : 0 ≤ hdV z r m k ∧ hdV z r m k ≤ 65520 := sum_bd _
/-- What is read out of bytes. -/
def rdZ9 (d : List Int) : Int := d.getD 1 0
def rdR (d : List Int) : Int := 256 * d.getD 2 0 + d.getD 3 0
def rdM7 (d : List Int) : Int := 256 * d.getD 4 0 + d.getD 5 0
def rdK (d : List Int) : Int := d.getD 6 0
def rdB (d : List Int) : Bool := decide (d.length = 7 ∧ d.getD 0 0 = 5) && hdB (rdZ9 d) (rdR d) (rdM7 d) (rdK d)
def rdC9 (d : List Int) : Int := if rdB d = true then 0 else 5
def rdI (d : List Int) (v : Int) : Int := if rdB d = true then v else 0
theorem rd_pack {z r m k : Int} (h : hdB z r m k = true) : rdB (hdL z r m k) = true ∧ rdZ9 (hdL z r m k) = z ∧ rdR (hdL z r m k) = r ∧ rdM7 (hdL z r m k) = m ∧ rdK (hdL z r m k) = k := by
  have e1 : rdZ9 (hdL z r m k) = z := rfl
  have e2 : rdR (hdL z r m k) = r := by show 256 * (r / 256) + r % 256 = r; omega
  have e3 : rdM7 (hdL z r m k) = m := by show 256 * (m / 256) + m % 256 = m; omega
  have e4 : rdK (hdL z r m k) = k := rfl
  refine ⟨?_, e1, e2, e3, e4⟩
  unfold rdB
  rw [e1, e2, e3, e4, h]
  rfl
theorem pack_rd {d : List Int} (h : rdB d = true) (hw : ∀ n ∈ d, (Lit.int .u8 n).wf = true) : hdL (rdZ9 d) (rdR d) (rdM7 d) (rdK d) = d ∧ hdB (rdZ9 d) (rdR d) (rdM7 d) (rdK d) = true := by
  unfold rdB at h
  simp only [Bool.and_eq_true, decide_eq_true_eq] at h
  obtain ⟨⟨h7, h5⟩, hb⟩ := h
  refine ⟨?_, hb⟩
  match d, h7 with
  | [a, b, c, e, f, g, i], _ =>
    have u : ∀ n ∈ [a, b, c, e, f, g, i], 0 ≤ n ∧ n ≤ 255 := fun n hn => by
      have := range_u8 (zs := [n]) (fun y hy => by simp at hy; subst hy; exact hw _ hn) 0
      simpa using this
    have ua := u a (by simp)
    have uc := u c (by simp)
    have ue := u e (by simp)
    have uf := u f (by simp)
    have ug := u g (by simp)
    simp only [rdZ9, rdR, rdM7, rdK, hdL, List.getD_cons_zero, List.getD_cons_succ] at h5 ⊢
    subst h5
    have e1 : (256 * c + e) / 256 = c := by omega
    have e2 : (256 * c + e) % 256 = e := by omega
    have e3 : (256 * f + g) / 256 = f := by omega
    have e4 : (256 * f + g) % 256 = g := by omega
    rw [e1, e2, e3, e4]
/-- The fault of a signed head. -/
def sdF (z r m k i : Int) (sh ot p : List Int) : Int := if hdB z r m k = true then (if sgF i sh ot = 0 then (if i = k then (if p.length ≤ 6 then suF p else 2) else 1) else sgF i sh ot) else 3
theorem sdF_zero {z r m k i : Int} {sh ot p : List Int} (h : sdF z r m k i sh ot p = 0) : hdB z r m k = true ∧ sgF i sh ot = 0 ∧ i = k ∧ p.length ≤ 6 ∧ allS p = true := by
  unfold sdF at h
  split at h
  · split at h
    · split at h
      · split at h
        · rename_i h1 h2 h3 h4
          unfold suF at h
          split at h
          · exact ⟨h1, h2, h3, h4, ‹_›⟩
          · omega
        · omega
      · omega
    · exact absurd h ‹_›
  · omega
theorem sdF_of {z r m k i : Int} {sh ot p : List Int} (h1 : hdB z r m k = true) (h2 : sgF i sh ot = 0) (h3 : i = k) (h4 : p.length ≤ 6) (h5 : allS p = true) : sdF z r m k i sh ot p = 0 := by
  unfold sdF suF
  rw [if_pos h1, if_pos h2, if_pos h3, if_pos h4, if_pos h5]

end Go.Proofs.YtffidkoejlebeaaDoor
