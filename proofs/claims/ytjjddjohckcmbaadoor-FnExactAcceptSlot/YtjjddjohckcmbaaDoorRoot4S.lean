/- Contracts: the model's root of a log, split by split. -/
import Derived.Test.YtjjddjohckcmbaaDoorGrowC
import Derived.Test.YtjjddjohckcmbaaDoorKeep
import Derived.Test.YtjjddjohckcmbaaDoorSplit
import Derived.Test.YtjjddjohckcmbaaDoorIn
import Derived.Deep.RegionWith
namespace Go.Proofs.YtjjddjohckcmbaaDoor
open Go.ChangeShapes Go.WideShapes Go.ChangeAt Go.RowKit
set_option linter.unusedVariables false
set_option linter.unusedSimpArgs false

theorem has_init {w : World} {k : IntKind} {a : Option Addr} {zs : List Int} (h : Has w k a zs.length zs) (n : Nat) (hn : n ≤ zs.length) : Has w k a (zs.take n).length (zs.take n) := h.init n hn
theorem has_rest {w : World} {k : IntKind} {b o : Nat} {zs : List Int} (h : Has w k (some ⟨b, o, none⟩) zs.length zs) (n : Nat) (hn : n ≤ zs.length) : Has w k (some ⟨b, o + n, none⟩) (zs.drop n).length (zs.drop n) := by
  refine ⟨rfl, fun x hx => h.2.1 x (List.mem_of_mem_drop hx), ?_⟩
  rcases h.2.2 with c | ⟨b', off', e, hlt, hc⟩
  · exact .inl (by simp; omega)
  · simp at e
    obtain ⟨rfl, rfl⟩ := e
    refine .inr ⟨b, o + n, rfl, hlt, fun j hj => ?_⟩
    simp at hj
    rw [show o + n + j = o + (n + j) by omega, hc (n + j) (by omega)]
    simp [List.getD]

end Go.Proofs.YtjjddjohckcmbaaDoor
