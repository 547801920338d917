/- Bytes appended to a row of one's own, at a step of a region that draws: whatever the source, nil or empty among them. -/
import Derived.Test.YtngibnmcagogaaaDoorPiece
import Derived.Deep.RegionHeld3
import Derived.Deep.AppendLies
import Derived.Deep.DrawnRows
namespace Go.Proofs.YtngibnmcagogaaaDoor
open Go.ChangeShapes Go.WideShapes Go.ChangeAt Go.RowKit
set_option linter.unusedVariables false
set_option linter.unusedSimpArgs false

theorem Has.grown {w w' : World} {k : IntKind} {a : Option Addr} {len : Nat} {zs : List Int} {row : Option Nat} (h : Has w k a len zs) (hg : w.grownBy w' row) (hne : ∀ ad, a = some ad → some ad.block ≠ row) : Has w' k a len zs := by
  refine ⟨h.1, h.2.1, ?_⟩
  rcases h.2.2 with h0 | ⟨b, off, ha, hlt, hc⟩
  · exact .inl h0
  · exact .inr ⟨b, off, ha, Nat.lt_of_lt_of_le hlt hg.size, fun i hi => (hg.cell_far ⟨b, off + i, none⟩ hlt (hne ⟨b, off, none⟩ ha)).trans (hc i hi)⟩

theorem run_append_nil {P : Program} (w : World) (t ty e : TypeId) (i : TypeInfo) (z : Value) (ht : P.underlying t = some (.slice e)) (hi : P.info? e = some i) (hz : i.zero = some z) (hsize : i.size = 1) (g n cap c : Nat) (hn : n ≤ cap) :
    (Builtin.append_ #[t, t] ty #[.slice (some ⟨g, 0, none⟩) n cap, .slice none 0 c]).run P w = .ok (.slice (some ⟨g, 0, none⟩) n cap) w := by
  simp [Builtin.append_, run_underlying ht, sizeOf, typeInfo, hi, hsize, Builtin.lenOf, hn, Builtin.firstCells, storeCells]

/-- Bytes appended, at the run. -/
theorem run_app {P : Program} (w : World) (t ty base e : TypeId) (i : TypeInfo) (ht : P.underlying t = some (.slice e)) (hi : P.info? e = some i) (hz : i.zero = some (.int .u8 0)) (hsize : i.size = 1) (hby : i.bytes = 1)
    (g n cap : Nat) (xs : List Value) (hown : w.ownsRow base e 1 (.slice (some ⟨g, 0, none⟩) n cap) n xs) (a2 : Option Addr) (c : Nat) (zs : List Int) (hz2 : Has w .u8 a2 zs.length zs) (hn : n ≤ 2097152) (hm : zs.length ≤ 2097152) (hbase : base ≤ w.heap.size) :
    ∃ g' cap' w', (Builtin.append_ #[t, t] ty #[.slice (some ⟨g, 0, none⟩) n cap, .slice a2 zs.length c]).run P w = .ok (.slice (some ⟨g', 0, none⟩) (n + zs.length) cap') w' ∧ w'.ownsRow base e 1 (.slice (some ⟨g', 0, none⟩) (n + zs.length) cap') (n + zs.length) (xs ++ zs.map (.int .u8)) ∧ w.grownBy w' (some g) ∧ (g' = g ∨ g' = w.heap.size) ∧ g' < w'.heap.size := by
  have hgl := (hown.lt g rfl)
  cases a2 with
  | none =>
    have h0 : zs.length = 0 := by
      rcases hz2.2.2 with c | ⟨_, _, c, _⟩
      · exact c
      · cases c
    obtain rfl : zs = [] := List.eq_nil_of_length_eq_zero h0
    have hcap : n ≤ cap := by
      rcases hown.2 with ⟨e1, _⟩ | ⟨_, _, _, e1, _, _, h1, _⟩
      · simp at e1
      · simp at e1; omega
    exact ⟨g, cap, w, run_append_nil w t ty e i _ ht hi hz hsize g n cap c hcap, by simpa using hown, World.grownBy.refl _ _, .inl rfl, hgl.2⟩
  | some ad =>
    obtain ⟨v', w', hr, h2, h3, h4, h5⟩ := run_append_own_at (P := P) w base t ty e i (.int .u8 0) 1 1 ht hi hz hsize hby rfl (by decide) _ n xs hown ad zs.length c (zs.map (.int .u8)) (by simp) hz2.news (by intro u hu; simp at hu; obtain ⟨n, _, rfl⟩ := hu; rfl) (by unfold maxLen; omega) (by omega) hbase
    obtain ⟨a', c', rfl⟩ := own_row_shape h2
    rcases h2.2 with ⟨e1, e2⟩ | ⟨g', cap', cur, e1, h6, h7, _⟩
    · have := (h4.1 e1).1
      simp at this
    · simp at e1
      obtain ⟨rfl, rfl⟩ := e1
      refine ⟨g', _, w', hr, h2, h3, ?_, (Array.getElem?_eq_some_iff.1 h7).1⟩
      simpa [Value.ownBlock] using h5

theorem step_app {P : Program} {ops : Array Oper} {o : Oper} {a : Act} {w : World} {K : Act → World → Prop} {Q : Exit → Act → World → Prop} {E : Prop} (hgd : o.guard = none) (s x : Operand) (t : TypeId)
    (ho : o.op = .call { callee := .builtin .append, args := #[s, x], argTypes := #[t, t] }) (base e : TypeId) (i : TypeInfo) (ht : P.underlying t = some (.slice e)) (hi : P.info? e = some i) (hz : i.zero = some (.int .u8 0)) (hsize : i.size = 1) (hby : i.bytes = 1)
    (g n cap : Nat) (xs : List Value) (hs : a.eval s = .slice (some ⟨g, 0, none⟩) n cap) (hown : w.ownsRow base e 1 (.slice (some ⟨g, 0, none⟩) n cap) n xs) (a2 : Option Addr) (c : Nat) (zs : List Int) (hx : a.eval x = .slice a2 zs.length c) (hz2 : Has w .u8 a2 zs.length zs) (hn : n ≤ 2097152) (hm : zs.length ≤ 2097152) (hbase : base ≤ w.heap.size)
    (h : ∀ g' cap' w', w'.ownsRow base e 1 (.slice (some ⟨g', 0, none⟩) (n + zs.length) cap') (n + zs.length) (xs ++ zs.map (.int .u8)) → w.grownBy w' (some g) → (g' = g ∨ g' = w.heap.size) → g' < w'.heap.size → K (a.put o.dst (.slice (some ⟨g', 0, none⟩) (n + zs.length) cap')) w') :
    if Region.wanted o (yielded ops a.tmps) = true then Oper.wp P o a w K Q else E := by
  have hw : Region.wanted o (yielded ops a.tmps) = true := by simp [Region.wanted, hgd]
  rw [if_pos hw]
  obtain ⟨g', cap', w', hr, h2, h3, h4, h5⟩ := run_app w t o.type base e i ht hi hz hsize hby g n cap xs hown a2 c zs hz2 hn hm hbase
  unfold Oper.wp execOp
  simp only [ho, resolve, invoke, builtin, Sem.run_bind, Sem.run_pure, Result.andThen_ok, List.map_toArray, List.map_cons, List.map_nil, hs, hx, hr]
  exact h g' cap' w' h2 h3 h4 h5

end Go.Proofs.YtngibnmcagogaaaDoor
