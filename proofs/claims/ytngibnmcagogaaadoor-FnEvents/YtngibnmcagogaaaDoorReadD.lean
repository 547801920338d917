/- What ReadEvent answers, in plain words; the program's reader held against it. -/
import Derived.Test.YtngibnmcagogaaaDoorTakeV
namespace Go.Proofs.YtngibnmcagogaaaDoor
open Go.ChangeShapes Go.WideShapes Go.ChangeAt Go.RowKit
set_option maxRecDepth 100000
set_option linter.unusedVariables false
set_option linter.unusedSimpArgs false

def rdOk (zs : List Int) : Prop := rdLong zs ∧ evF (zAt zs 0) (rdV zs) (zAt zs 3) (rdX zs) (rdM zs) = 0
open Classical in
noncomputable def rdC (zs : List Int) : Int := if rdOk zs then 0 else 5
open Classical in
noncomputable def rS (zs : List Int) : Int := if rdOk zs then zAt zs 0 else 0
open Classical in
noncomputable def rV (zs : List Int) : Int := if rdOk zs then rdV zs else 0
open Classical in
noncomputable def rK (zs : List Int) : Int := if rdOk zs then zAt zs 3 else 0
open Classical in
noncomputable def rX (zs : List Int) : Int := if rdOk zs then rdX zs else 0
open Classical in
noncomputable def rZ (zs : List Int) : List Int := if rdOk zs then rdZ zs else []
open Classical in
noncomputable def rU (zs : List Int) : Int := if rdOk zs then 13 + (rdM zs : Int) else 0
theorem r_bad {zs : List Int} (h : ¬ rdOk zs) : rdC zs = 5 ∧ rS zs = 0 ∧ rV zs = 0 ∧ rK zs = 0 ∧ rX zs = 0 ∧ rZ zs = [] ∧ rU zs = 0 := by
  unfold rdC rS rV rK rX rZ rU
  simp [h]
theorem r_ok {zs : List Int} (h : rdOk zs) : rdC zs = 0 ∧ rS zs = zAt zs 0 ∧ rV zs = rdV zs ∧ rK zs = zAt zs 3 ∧ rX zs = rdX zs ∧ rZ zs = rdZ zs ∧ rU zs = 13 + (rdM zs : Int) := by
  unfold rdC rS rV rK rX rZ rU
  simp [h]

/-- What is taken, where the bytes are long enough. -/
theorem next_ok (d : Rd) (n : Nat) (h : n ≤ d.rs.length) : d.next n = ⟨d.rs.drop n, d.u + n, d.k⟩ := by unfold Rd.next; rw [if_neg (by omega)]
theorem next_cut (d : Rd) (n : Nat) (h : d.rs.length < n) : (d.next n).k = true := by unfold Rd.next; rw [if_pos h]
theorem next_k (d : Rd) (n : Nat) (h : d.k = true) : (d.next n).k = true := by unfold Rd.next; split <;> simp [h]
theorem next_wf (d : Rd) (n : Nat) (h : ∀ x ∈ d.rs, (Lit.int .u8 x).wf = true) : ∀ x ∈ (d.next n).rs, (Lit.int .u8 x).wf = true := by
  unfold Rd.next
  split
  · exact h
  · exact fun x hx => h x (List.mem_of_mem_drop hx)
theorem num_one (d : Rd) (h : ∀ x ∈ d.rs, (Lit.int .u8 x).wf = true) : 0 ≤ d.num 1 ∧ d.num 1 ≤ 255 ∧ (1 ≤ d.rs.length → d.num 1 = zAt d.rs 0) := by
  unfold Rd.num
  split
  · exact ⟨by omega, by omega, fun q => by omega⟩
  · have hb := zAt_bd h 0
    have e : getN (d.rs.take 1) 1 = zAt d.rs 0 := by
      simp [getN, zAt, List.getD, List.getElem?_take]
    rw [e]
    have : wrap64 (zAt d.rs 0) = zAt d.rs 0 := by unfold wrap64; omega
    rw [this]
    exact ⟨hb.1, hb.2, fun _ => rfl⟩
theorem zAt_drop (zs : List Int) (i j : Nat) : zAt (zs.drop i) j = zAt zs (i + j) := by simp [zAt, List.getD, List.getElem?_drop]
/-- The reader's way through the bytes. -/
structure Way (zs : List Int) where
  d1 : Rd
  d2 : Rd
  d3 : Rd
  d4 : Rd
  d5 : Rd
  m : Nat
  d6 : Rd
def wayD0 (zs : List Int) : Rd := ⟨zs, 0, false⟩
def wayD1 (zs : List Int) : Rd := (wayD0 zs).next 1
def wayD2 (zs : List Int) : Rd := (wayD1 zs).next 2
def wayD3 (zs : List Int) : Rd := (wayD2 zs).next 1
def wayD4 (zs : List Int) : Rd := (wayD3 zs).next 8
def wayD5 (zs : List Int) : Rd := (wayD4 zs).next 1
def wayM (zs : List Int) : Nat := ((wayD4 zs).num 1).toNat
def wayD6 (zs : List Int) : Rd := (wayD5 zs).next (wayM zs)
theorem way_wf4 {zs : List Int} (h : ∀ x ∈ zs, (Lit.int .u8 x).wf = true) : ∀ x ∈ (wayD4 zs).rs, (Lit.int .u8 x).wf = true := next_wf _ _ (next_wf _ _ (next_wf _ _ (next_wf _ _ h)))
theorem wayM_eq {zs : List Int} (h : ∀ x ∈ zs, (Lit.int .u8 x).wf = true) : (wayD4 zs).num 1 = (wayM zs : Int) ∧ wayM zs ≤ 255 := by
  have := num_one (wayD4 zs) (way_wf4 h)
  unfold wayM
  omega
theorem way13 {zs : List Int} (h : 13 ≤ zs.length) : wayD1 zs = ⟨zs.drop 1, 1, false⟩ ∧ wayD2 zs = ⟨zs.drop 3, 3, false⟩ ∧ wayD3 zs = ⟨zs.drop 4, 4, false⟩ ∧ wayD4 zs = ⟨zs.drop 12, 12, false⟩ ∧ wayD5 zs = ⟨zs.drop 13, 13, false⟩ := by
  have e1 : wayD1 zs = ⟨zs.drop 1, 1, false⟩ := by unfold wayD1 wayD0; rw [next_ok _ _ (by show 1 ≤ zs.length; omega)]; rfl
  have e2 : wayD2 zs = ⟨zs.drop 3, 3, false⟩ := by unfold wayD2; rw [e1, next_ok _ _ (by simp; omega)]; simp
  have e3 : wayD3 zs = ⟨zs.drop 4, 4, false⟩ := by unfold wayD3; rw [e2, next_ok _ _ (by simp; omega)]; simp
  have e4 : wayD4 zs = ⟨zs.drop 12, 12, false⟩ := by unfold wayD4; rw [e3, next_ok _ _ (by simp; omega)]; simp
  have e5 : wayD5 zs = ⟨zs.drop 13, 13, false⟩ := by unfold wayD5; rw [e4, next_ok _ _ (by simp; omega)]; simp
  exact ⟨e1, e2, e3, e4, e5⟩
theorem way_short {zs : List Int} (h : zs.length < 13) : (wayD6 zs).k = true := by
  have up : (wayD5 zs).k = true → (wayD6 zs).k = true := fun q => next_k _ _ q
  refine up ?_
  by_cases c1 : zs.length < 1
  · exact next_k _ _ (next_k _ _ (next_k _ _ (next_k _ _ (next_cut (wayD0 zs) 1 c1))))
  · have e1 : wayD1 zs = ⟨zs.drop 1, 1, false⟩ := by unfold wayD1 wayD0; rw [next_ok _ _ (by show 1 ≤ zs.length; omega)]; rfl
    by_cases c2 : zs.length < 3
    · exact next_k _ _ (next_k _ _ (next_k _ _ (next_cut (wayD1 zs) 2 (by rw [e1]; simp; omega))))
    · have e2 : wayD2 zs = ⟨zs.drop 3, 3, false⟩ := by unfold wayD2; rw [e1, next_ok _ _ (by simp; omega)]; simp
      by_cases c3 : zs.length < 4
      · exact next_k _ _ (next_k _ _ (next_cut (wayD2 zs) 1 (by rw [e2]; simp; omega)))
      · have e3 : wayD3 zs = ⟨zs.drop 4, 4, false⟩ := by unfold wayD3; rw [e2, next_ok _ _ (by simp; omega)]; simp
        by_cases c4 : zs.length < 12
        · exact next_k _ _ (next_cut (wayD3 zs) 8 (by rw [e3]; simp; omega))
        · have e4 : wayD4 zs = ⟨zs.drop 12, 12, false⟩ := by unfold wayD4; rw [e3, next_ok _ _ (by simp; omega)]; simp
          exact next_cut (wayD4 zs) 1 (by rw [e4]; simp; omega)
theorem way_M {zs : List Int} (hw : ∀ x ∈ zs, (Lit.int .u8 x).wf = true) (h : 13 ≤ zs.length) : wayM zs = rdM zs := by
  have e4 := (way13 h).2.2.2.1
  have := (num_one (wayD4 zs) (way_wf4 hw)).2.2 (by rw [e4]; simp; omega)
  unfold wayM rdM
  rw [this, e4, zAt_drop]
theorem way_cut {zs : List Int} (hw : ∀ x ∈ zs, (Lit.int .u8 x).wf = true) (h : ¬ rdLong zs) : (wayD6 zs).k = true := by
  by_cases h13 : 13 ≤ zs.length
  · have e5 := (way13 h13).2.2.2.2
    refine next_cut _ _ ?_
    rw [e5, way_M hw h13]
    have : ¬ 13 + rdM zs ≤ zs.length := fun q => h ⟨h13, q⟩
    simp
    omega
  · exact way_short (by omega)
theorem way_long {zs : List Int} (hw : ∀ x ∈ zs, (Lit.int .u8 x).wf = true) (h : rdLong zs) : (wayD0 zs).num 1 = zAt zs 0 ∧ (wayD1 zs).num 2 = rdV zs ∧ (wayD2 zs).num 1 = zAt zs 3 ∧ (wayD3 zs).num 8 = rdX zs ∧ wayM zs = rdM zs ∧ (wayD5 zs).note (wayM zs) = rdZ zs ∧ (wayD6 zs).k = false ∧ (wayD6 zs).u = 13 + (rdM zs : Int) := by
  obtain ⟨h13, hn⟩ := h
  obtain ⟨e1, e2, e3, e4, e5⟩ := way13 h13
  have eM := way_M hw h13
  have e6 : wayD6 zs = ⟨zs.drop (13 + rdM zs), 13 + (rdM zs : Int), false⟩ := by unfold wayD6; rw [e5, eM, next_ok _ _ (by simp; omega)]; simp
  refine ⟨(num_one (wayD0 zs) hw).2.2 (by show 1 ≤ zs.length; omega), ?_, ?_, ?_, eM, ?_, by rw [e6], by rw [e6]⟩
  · rw [e1]
    unfold Rd.num rdV
    rw [if_neg (by simp; omega)]
    have b1 := zAt_bd hw 1
    have b2 := zAt_bd hw 2
    have e : getN ((zs.drop 1).take 2) 2 = 256 * zAt zs 1 + zAt zs 2 := by
      simp only [getN]
      have a1 : ((zs.drop 1).take 2).getD 0 0 = zAt zs 1 := by simp [zAt, List.getD, List.getElem?_take, List.getElem?_drop]
      have a2 : ((zs.drop 1).take 2).getD 1 0 = zAt zs 2 := by simp [zAt, List.getD, List.getElem?_take, List.getElem?_drop]
      rw [a1, a2]
      omega
    show wrap64 (getN ((zs.drop 1).take 2) 2) = _
    rw [e]
    unfold wrap64
    omega
  · have := (num_one (wayD2 zs) (next_wf _ _ (next_wf _ _ hw))).2.2 (by rw [e2]; simp; omega)
    rw [this, e2, zAt_drop]
  · rw [e3]
    unfold Rd.num rdX
    rw [if_neg (by simp; omega)]
    show wrap64 (getN ((zs.drop 4).take 8) 8) = _
    rw [getN_take _ 8 8 (Nat.le_refl _)]
  · rw [e5, eM]
    unfold Rd.note rdZ
    rw [if_neg (by simp; omega)]

end Go.Proofs.YtngibnmcagogaaaDoor
