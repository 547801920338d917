/- What the exact laws leave of memory while they copy, compare and mark: nothing turns but what lies from one block up to another. What is found is a clash of short pieces of bytes. -/
import Derived.Test.YtklhkhlmhddmcaaDoorFrB
import Derived.Test.YtklhkhlmhddmcaaDoorPcsM
import Derived.Test.YtklhkhlmhddmcaaDoorMarkI
import Derived.Test.YtklhkhlmhddmcaaDoorExt6C
namespace Go.Proofs.YtklhkhlmhddmcaaDoor
open Go.ChangeShapes Go.WideShapes Go.ChangeAt Go.RowKit
set_option linter.unusedVariables false
set_option linter.unusedSimpArgs false

theorem OwnC.ex {lo hi : Nat} {w u : World} {base : Nat} {a1 a2 : Option Addr} {c1 c2 : Nat} {xs ys : List Int} (h : OwnC w base a1 a2 c1 c2 xs ys) (k : Ex lo hi w u) (hb : hi ≤ base) : OwnC u base a1 a2 c1 c2 xs ys := ⟨own_ex h.one k hb, own_ex h.two k hb, h.apart⟩
theorem OwnP.ex {lo hi : Nat} {w u : World} {base g : Nat} {rs : List Pc} {gs : List Nat} (h : OwnP w base g rs gs) (k : Ex lo hi w u) (hb : hi ≤ base) : OwnP u base g rs gs := ⟨own_ex h.out k hb, fun i h1 h2 => own_ex (h.row i h1 h2) k hb, h.up, h.ord⟩
theorem OwnC.blocks {w : World} {base : Nat} {a1 a2 : Option Addr} {c1 c2 : Nat} {xs ys : List Int} (h : OwnC w base a1 a2 c1 c2 xs ys) : ∀ b, ((∃ x, a1 = some x ∧ b = x.block) ∨ ∃ x, a2 = some x ∧ b = x.block) → base ≤ b ∧ b < w.heap.size := by
  rintro b (⟨x, e, rfl⟩ | ⟨x, e, rfl⟩)
  · exact ⟨own_base h.one x e, own_lt h.one x e⟩
  · exact ⟨own_base h.two x e, own_lt h.two x e⟩
theorem Has.ex {lo hi : Nat} {w u : World} {k : IntKind} {a : Option Addr} {n : Nat} {zs : List Int} (h : Has w k a n zs) {B : Nat} (hb : w.heap.size ≤ B) (e : Below B w u) : Has u k a n zs := h.below e hb

theorem szV_ok {n : Int} {rs : List Pc} (h : ¬ szV n rs < 0) (hn : n ≤ 1048576) : rs.length ≤ 1048576 ∧ sumZ rs ≤ 1048576 ∧ szV n rs ≤ 1048576 ∧ 0 ≤ szV n rs ∧ ∀ r ∈ rs, r.zs.length ≤ 1048576 := by
  unfold szV at *
  split at h
  · omega
  · rename_i h2
    rw [if_neg h2]
    have hs : sumZ rs ≤ 1048576 := by omega
    exact ⟨by omega, hs, by omega, by omega, fun r hr => Nat.le_trans (sumZ_mem hr) hs⟩

theorem toByteSS_has (a : Option Addr) (c : Nat) (rs : List Pc) (w : World) (h : HasP w a rs) (hl : rs.length ≤ 1048576) (hz : ∀ r ∈ rs, r.zs.length ≤ 1048576) :
    Calls Tryd.prog 35 #[.slice a rs.length c] w fun r w' => ∃ qs, qs.map Pc.zs = rs.map Pc.zs ∧ r = .returned (.slice (some ⟨w.heap.size, 0, none⟩) rs.length rs.length) ∧ HasP w' (some ⟨w.heap.size, 0, none⟩) qs ∧ w.heap.size < w'.heap.size ∧ Below w.heap.size w w' := by
  refine (toByteSS_any a c rs w h hl hz).mono ?_
  rintro r w' ⟨gs, hgs, rfl, O, hb⟩
  exact ⟨copyP rs gs, copyP_zs hgs, rfl, O.has hgs (fun r hr => ⟨(h.2 r hr).1.2.1, Nat.le_trans (h.2 r hr).2.1 (h.2 r hr).2.2⟩), (O.out.lt _ rfl).2, hb⟩
theorem OwnP.qs {w : World} {base g : Nat} {rs : List Pc} {gs : List Nat} (h : OwnP w base g rs gs) (hl : gs.length = rs.length) (hw : ∀ r ∈ rs, (∀ n ∈ r.zs, (Lit.int .u8 n).wf = true) ∧ r.zs.length ≤ maxLen) : ∃ qs, qs.map Pc.zs = rs.map Pc.zs ∧ qs.length = rs.length ∧ HasP w (some ⟨g, 0, none⟩) qs := ⟨copyP rs gs, copyP_zs hl, copyP_len hl, h.has hl hw⟩
theorem eqByteSS_two (a b : Option Addr) (ca cb : Nat) (rs ps qs : List Pc) (w : World) (ha : HasP w a ps) (hb : HasP w b qs) (h1 : ps.map Pc.zs = rs.map Pc.zs) (h2 : qs.map Pc.zs = rs.map Pc.zs) (hl : rs.length ≤ 1048576) (hz : ∀ r ∈ rs, r.zs.length ≤ 1048576) :
    Calls Tryd.prog 39 #[.slice a rs.length ca, .slice b rs.length cb] w fun r w' => r = .returned (.bool true) ∧ Below w.heap.size w w' := by
  have := eqByteSS_any a b ca cb ps qs w ha hb (h2.trans h1.symm) (by rw [zs_len h1]; exact hl) (zs_mem h1 (P := fun z => z.length ≤ 1048576) hz)
  rw [zs_len h1, zs_len h2] at this
  exact this

end Go.Proofs.YtklhkhlmhddmcaaDoor

namespace Go.Proofs.YtklhkhlmhddmcaaDoor
open Go.ChangeShapes Go.WideShapes Go.ChangeAt Go.RowKit
set_option linter.unusedVariables false
set_option linter.unusedSimpArgs false

theorem cl_ok {X : Cl} (h : ∀ x, X = some x → isCl x) : (clA X).length ≤ 300 ∧ (clB X).length ≤ 300 ∧ (∀ n ∈ clA X, (Lit.int .u8 n).wf = true) ∧ ∀ n ∈ clB X, (Lit.int .u8 n).wf = true := by
  cases X with
  | none => exact ⟨Nat.zero_le _, Nat.zero_le _, by simp [clA], by simp [clB]⟩
  | some x =>
    obtain ⟨_, h1, h2, h3, h4⟩ := h x rfl
    exact ⟨h1, h2, h3, h4⟩
theorem tkX_some (xs ys : List Int) : ∀ x, tkX xs ys = some x → isCl x := by
  intro x h
  unfold tkX at h
  split at h
  · obtain ⟨h1, h2, _⟩ := tkC_zero ‹_›
    exact trC_some _ xs ys (Nat.le_refl _) (lvF_zero h1).2 (lvF_zero h2).2 x h
  · cases h

end Go.Proofs.YtklhkhlmhddmcaaDoor
