/- Contracts: sources of draws: laid, and numbers of whatever bound. -/
import Derived.Test.YtbacpnopklkadaaSrc
namespace Go.Proofs.Ytbacpnopklkadaa
open Go.ChangeShapes Go.WideShapes Go.ChangeAt Go.RowKit
set_option linter.unusedVariables false
set_option linter.unusedSimpArgs false

/-- What a source leaves behind, seen from ahead of it. -/
theorem after_source {w w1 w2 : World} (hb : Below w.heap.size w w1) (ho : Only w.heap.size w1 w2) : Below w.heap.size w w2 := hb.trans (ho.below (Nat.le_refl _) hb.size)

theorem Only.grown {s : Nat} {w w' : World} (h : Only s w w') : w.grownBy w' (some s) := ⟨h.os, h.tape, h.output, h.size, fun k hk hn => h.block k hk (fun e => hn (by rw [e]))⟩
theorem Only.then_below {s : Nat} {a b c : World} (h : Only s a b) (k : Below a.heap.size b c) : Only s a c :=
  ⟨k.os.trans h.os, k.tape.trans h.tape, k.output.trans h.output, Nat.le_trans h.size k.size, fun i hi hn => (k.block i hi).trans (h.block i hi hn)⟩
theorem SrcAt.below' {w w' : World} {B s : Nat} {a : Option Addr} {len cap : Nat} {zs : List Int} {t : Nat} {N : Nat} (h : SrcAt w B s a len cap zs t) (hb : Below N w w') (hN : s < N) : SrcAt w' B s a len cap zs t :=
  ⟨(hb.cell (p := ⟨s, 0, none⟩) hN).trans h.code, (hb.cell (p := ⟨s, 1, none⟩) hN).trans h.at', (hb.frozen (p := ⟨s, 1, none⟩) hN).trans h.free, h.base, Nat.lt_of_lt_of_le h.lt hb.size, h.len', h.small, h.wf,
    h.cells.imp id fun ⟨b, off, ha, hl, hc⟩ => ⟨b, off, ha, hl, fun i hi => (hb.cell (p := ⟨b, off + i, none⟩) (by have := h.base; show b < _; omega)).trans (hc i hi)⟩⟩
theorem own_only {w w' : World} {base e size n s : Nat} {v : Value} {xs : List Value} (h : w.ownsRow base e size v n xs) (ho : Only s w w') (hs : s < base) : w'.ownsRow base e size v n xs := by
  refine h.kept ho.grown ?_
  cases hv : v.ownBlock with
  | none => exact .inl rfl
  | some g => exact .inr (by have := h.lt g hv; intro e; simp at e; omega)
theorem one_new (w : World) (x : Value) (T : Nat) : ∀ (j : Nat) (u : Value), [x][j]? = some u → (w.alloc (.cells #[x] T)).cell? ((⟨w.heap.size, 0, none⟩ : Addr).add j) = some u := by
  intro j u hj
  match j, hj with
  | 0, hj => simp at hj; subst hj; simp [Addr.add]

end Go.Proofs.Ytbacpnopklkadaa
