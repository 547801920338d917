/- A region that draws its order and whose callees make memory: one walk of the text's order, over every world in which all that there was is as it was. -/
import Derived.Test.YtkjhcblfkpknlaaDoorFrame
namespace Go.Proofs.YtkjhcblfkpknlaaDoor
open Go.ChangeShapes Go.WideShapes Go.ChangeAt Go.RowKit
set_option linter.unusedVariables false
set_option linter.unusedSimpArgs false

/-- A world in which all that there was in W is as it was. -/
structure KeptW (W : World) where
  wd : World
  hb : Below W.heap.size W wd
theorem wp_region_kept {P : Program} {id : Nat} {Q : Exit → Act → World → Prop} {a : Act} {w : World} {l : List Oper} (hm : P.follows .mixedOrders = true) (hB : Region.lexB .any l.toArray = true)
    (h : wpQuiet P l.toArray (fun w' => ∃ d : KeptW w, w' = d.wd) (fun a' => ∀ w', (∃ d : KeptW w, w' = d.wd) → Q .normal a' w') l a) : (Code.region id l.toArray true).wp P Q a w :=
  wp_region_quiet (C := fun w' => ∃ d : KeptW w, w' = d.wd) hm hB ⟨⟨_, (Below.refl _ _).drew⟩, rfl⟩ (by simpa using h)
theorem KeptW.calls {P : Program} {f : FuncId} {args : Array Value} {W : World} {d : KeptW W} {v : Value} (h : Calls P f args d.wd fun e w' => e = .returned v ∧ Below d.wd.heap.size d.wd w') :
    Calls P f args d.wd fun e w'' => e = .returned v ∧ ∃ d' : KeptW W, w'' = d'.wd :=
  h.mono fun _ _ ⟨he, hb⟩ => ⟨he, ⟨_, d.hb.trans (hb.mono d.hb.size)⟩, rfl⟩
theorem KeptW.calls_same {P : Program} {f : FuncId} {args : Array Value} {W : World} {d : KeptW W} {v : Value} (h : Calls P f args d.wd fun e w' => e = .returned v ∧ w' = d.wd) :
    Calls P f args d.wd fun e w'' => e = .returned v ∧ ∃ d' : KeptW W, w'' = d'.wd :=
  h.mono fun _ _ ⟨he, hw⟩ => ⟨he, d, hw⟩
theorem KeptW.cell {W : World} {b o : Nat} {v : Value} (h : W.cell? ⟨b, o, none⟩ = some v) (hb : b < W.heap.size) : ∀ d : KeptW W, d.wd.cell? ⟨b, o, none⟩ = some v := fun d => (d.hb.cell (p := ⟨b, o, none⟩) hb).trans h
theorem KeptW.ofBelow {W : World} (d : KeptW W) {w0 : World} {B : Nat} (h : Below B w0 W) (hB : B ≤ W.heap.size) : Below B w0 d.wd := h.trans (d.hb.mono hB)

end Go.Proofs.YtkjhcblfkpknlaaDoor
