/- Contracts: the model's clashes of chapter 6: two pieces, two nodes. Contracts: the model's clash of two trees. Contracts: the model's TreeClash. -/
import Derived.Test.YtffidkoejlebeaaDoorFrB
import Derived.Test.YtffidkoejlebeaaDoorExtD
import Derived.Test.YtffidkoejlebeaaDoorPcsM
import Derived.Test.YtffidkoejlebeaaDoorRoot4S
import Derived.Deep.DeepCutAuto
import Derived.Deep.RegionWith
namespace Go.Proofs.YtffidkoejlebeaaDoor
open Go.ChangeShapes Go.WideShapes Go.ChangeAt Go.RowKit
set_option linter.unusedVariables false
set_option linter.unusedSimpArgs false

/-- The first piece of a clash. -/
def clA (x : Cl) : List Int := match x with | some y => y.1 | none => []
/-- The second piece of a clash. -/
def clB (x : Cl) : List Int := match x with | some y => y.2 | none => []
theorem OwnC.nil (w : World) (base : Nat) : OwnC w base none none 0 0 [] [] := ⟨World.ownsRow_nil _ _ _ _, World.ownsRow_nil _ _ _ _, fun _ _ e => by cases e⟩
theorem OwnC.mono {w : World} {base base' : Nat} {a1 a2 : Option Addr} {c1 c2 : Nat} {xs ys : List Int} (h : OwnC w base a1 a2 c1 c2 xs ys) (hb : base' ≤ base) : OwnC w base' a1 a2 c1 c2 xs ys := ⟨own_mono h.one hb, own_mono h.two hb, h.apart⟩
theorem OwnC.set {w : World} {base : Nat} {a1 a2 : Option Addr} {c1 c2 : Nat} {xs ys : List Int} (h : OwnC w base a1 a2 c1 c2 xs ys) (p : Addr) (u : Value) (hp : p.block < base) : OwnC (w.setCell p u) base a1 a2 c1 c2 xs ys :=
  ⟨own_blk h.one (fun x e => Below.heap_setCell _ _ _ _ (by have := own_base h.one x e; omega)), own_blk h.two (fun x e => Below.heap_setCell _ _ _ _ (by have := own_base h.two x e; omega)), h.apart⟩

/-- A variable of three cells that was written. -/
theorem var_set {E ua : World} {b base : Nat} {x0 x1 x2 v0 v1 v2 : Value} {a1 a2 : Option Addr} {c1 c2 : Nat} {xs ys : List Int} (q0 : ua.cell? ⟨b, 0, none⟩ = some x0) (q1 : ua.cell? ⟨b, 1, none⟩ = some x1) (q2 : ua.cell? ⟨b, 2, none⟩ = some x2) (f0 : ua.frozen? ⟨b, 0, none⟩ = false) (f1 : ua.frozen? ⟨b, 1, none⟩ = false) (f2 : ua.frozen? ⟨b, 2, none⟩ = false) (hb : E.heap.size ≤ b) (hlt : b < ua.heap.size) (D : Below E.heap.size E ua) (O : OwnC ua base a1 a2 c1 c2 xs ys) (hbase : b < base) :
    E.heap.size ≤ b ∧ b < (((ua.setCell ⟨b, 0, none⟩ v0).setCell ⟨b, 1, none⟩ v1).setCell ⟨b, 2, none⟩ v2).heap.size ∧ (((ua.setCell ⟨b, 0, none⟩ v0).setCell ⟨b, 1, none⟩ v1).setCell ⟨b, 2, none⟩ v2).cell? ⟨b, 0, none⟩ = some v0 ∧ (((ua.setCell ⟨b, 0, none⟩ v0).setCell ⟨b, 1, none⟩ v1).setCell ⟨b, 2, none⟩ v2).cell? ⟨b, 1, none⟩ = some v1 ∧ (((ua.setCell ⟨b, 0, none⟩ v0).setCell ⟨b, 1, none⟩ v1).setCell ⟨b, 2, none⟩ v2).cell? ⟨b, 2, none⟩ = some v2 ∧ ((((ua.setCell ⟨b, 0, none⟩ v0).setCell ⟨b, 1, none⟩ v1).setCell ⟨b, 2, none⟩ v2).frozen? ⟨b, 0, none⟩ = false ∧ (((ua.setCell ⟨b, 0, none⟩ v0).setCell ⟨b, 1, none⟩ v1).setCell ⟨b, 2, none⟩ v2).frozen? ⟨b, 1, none⟩ = false ∧ (((ua.setCell ⟨b, 0, none⟩ v0).setCell ⟨b, 1, none⟩ v1).setCell ⟨b, 2, none⟩ v2).frozen? ⟨b, 2, none⟩ = false) ∧ OwnC (((ua.setCell ⟨b, 0, none⟩ v0).setCell ⟨b, 1, none⟩ v1).setCell ⟨b, 2, none⟩ v2) E.heap.size a1 a2 c1 c2 xs ys ∧ Below E.heap.size E (((ua.setCell ⟨b, 0, none⟩ v0).setCell ⟨b, 1, none⟩ v1).setCell ⟨b, 2, none⟩ v2) := by
  have e1 : (ua.setCell ⟨b, 0, none⟩ v0).cell? ⟨b, 1, none⟩ = some x1 := (World.cell?_setCell_other (h := by simp) ..).trans q1
  have e2 : ((ua.setCell ⟨b, 0, none⟩ v0).setCell ⟨b, 1, none⟩ v1).cell? ⟨b, 2, none⟩ = some x2 := (World.cell?_setCell_other (h := by simp) ..).trans ((World.cell?_setCell_other (h := by simp) ..).trans q2)
  refine ⟨hb, by simpa using hlt, ?_, ?_, World.cell?_setCell_same (h := e2) .., ⟨by simpa using f0, by simpa using f1, by simpa using f2⟩, (((O.set _ _ hbase).set _ _ hbase).set _ _ hbase).mono (by omega), ((D.setCell hb _).setCell hb _).setCell hb _⟩
  · exact (World.cell?_setCell_other (h := by simp) ..).trans ((World.cell?_setCell_other (h := by simp) ..).trans (World.cell?_setCell_same (h := q0) ..))
  · exact (World.cell?_setCell_other (h := by simp) ..).trans (World.cell?_setCell_same (h := e1) ..)

end Go.Proofs.YtffidkoejlebeaaDoor

namespace Go.Proofs.YtffidkoejlebeaaDoor
open Go.ChangeShapes Go.WideShapes Go.ChangeAt Go.RowKit
set_option linter.unusedVariables false
set_option linter.unusedSimpArgs false

end Go.Proofs.YtffidkoejlebeaaDoor

namespace Go.Proofs.YtffidkoejlebeaaDoor
open Go.ChangeShapes Go.WideShapes Go.ChangeAt Go.RowKit
set_option linter.unusedVariables false
set_option linter.unusedSimpArgs false

/-- The code of TreeClash. -/
def tkC (xs ys : List Int) : Int := if lvF xs = 0 then (if lvF ys = 0 then (if xs.length = ys.length ∧ xs.length ≠ 0 then (if rtM nS 11 xs = rtM nS 11 ys then 0 else 8) else 1) else lvF ys) else lvF xs
/-- The clash of TreeClash. -/
def tkX (xs ys : List Int) : Cl := if tkC xs ys = 0 then trC xs ys else none
theorem tkC_zero {xs ys : List Int} (h : tkC xs ys = 0) : lvF xs = 0 ∧ lvF ys = 0 ∧ xs.length = ys.length ∧ 1 ≤ xs.length ∧ rtM nS 11 xs = rtM nS 11 ys := by
  unfold tkC at h
  split at h
  · split at h
    · split at h
      · split at h
        · exact ⟨‹_›, ‹_›, by omega, by omega, ‹_›⟩
        · omega
      · omega
    · omega
  · omega

end Go.Proofs.YtffidkoejlebeaaDoor
