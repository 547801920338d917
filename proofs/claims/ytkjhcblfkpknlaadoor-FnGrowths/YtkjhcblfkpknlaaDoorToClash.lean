/- Contracts of the model of chapter 2: clashes. Contracts of the laws' own functions over clashes: copied, held against each other, their size. -/
import Derived.Test.YtkjhcblfkpknlaaDoorPiece
import Derived.Laws.BytesArg
namespace Go.Proofs.YtkjhcblfkpknlaaDoor
open Go.ChangeShapes Go.WideShapes Go.ChangeAt Go.RowKit
set_option maxRecDepth 100000
set_option linter.unusedVariables false
set_option linter.unusedSimpArgs false

theorem Has.str {w : World} {a : Option Addr} {zs : List Int} (h : Has w .u8 a zs.length zs) (cap : Nat) : (convert 22 9 (.slice a zs.length cap)).run Tryd.prog w = .ok (.string (strOfNums zs)) w := by
  cases a with
  | none =>
    have h0 : zs.length = 0 := by
      rcases h.2.2 with c | ⟨_, _, c, _⟩
      · exact c
      · cases c
    obtain rfl : zs = [] := List.eq_nil_of_length_eq_zero h0
    exact run_convert_bytes_nil w _ _ Tryd.underlying22 Tryd.underlying5 _ _ _ Tryd.underlying9
  | some ad =>
    have hl := run_loadCells_list (P := Tryd.prog) w ad (zs.map (Value.int .u8)) h.news
    rw [List.length_map] at hl
    rw [run_convert_bytes_string w _ _ 5 _ _ _ Tryd.underlying22 Tryd.underlying5 Tryd.underlying9, run_bytesToString w _ _ cap zs hl, foldl_push_bytes]
    simp [strOfNums, ByteArray.empty, ByteArray.emptyWithCapacity]
    rfl
theorem str_inj {zs ys : List Int} (hz : ∀ n ∈ zs, (Lit.int .u8 n).wf = true) (hy : ∀ n ∈ ys, (Lit.int .u8 n).wf = true) : strOfNums zs = strOfNums ys ↔ zs = ys := by
  constructor
  · intro h
    have e : (zs.map fun n => UInt8.ofNat n.toNat) = ys.map fun n => UInt8.ofNat n.toNat := by
      have := congrArg (fun s => s.data.toList) h
      simpa [strOfNums_data] using this
    have back : ∀ l : List Int, (∀ n ∈ l, (Lit.int .u8 n).wf = true) → (l.map fun n => UInt8.ofNat n.toNat).map (fun c => (c.toNat : Int)) = l := by
      intro l
      induction l with
      | nil => intro _; rfl
      | cons x l ih =>
        intro hx
        have hb := bounds_u8 (hx x List.mem_cons_self)
        have ht : ((UInt8.ofNat x.toNat).toNat : Int) = x := by
          rw [UInt8.toNat_ofNat']
          omega
        simp only [List.map_cons, ht]
        rw [ih (fun n hn => hx n (List.mem_cons_of_mem _ hn))]
    rw [← back zs hz, ← back ys hy, e]
  · intro h; rw [h]

theorem own_shape {w : World} {base e n : Nat} {v : Value} {xs : List Value} (h : w.ownsRow base e 1 v n xs) : ∃ a c, v = .slice a n c := by
  rcases h.2 with ⟨rfl, h0⟩ | ⟨g, cap, cur, rfl, _⟩
  · exact ⟨none, 0, by rw [h0]⟩
  · exact ⟨_, cap, rfl⟩
theorem str_beq {zs ys : List Int} (hz : ∀ n ∈ zs, (Lit.int .u8 n).wf = true) (hy : ∀ n ∈ ys, (Lit.int .u8 n).wf = true) : ((strOfNums zs).toList == (strOfNums ys).toList) = decide (zs = ys) := by
  rw [Bool.eq_iff_iff, beq_iff_eq, decide_eq_true_iff, ← str_inj hz hy]
  constructor
  · intro h
    rw [ByteArray.toList_eq, ByteArray.toList_eq] at h
    cases hs : strOfNums zs with
    | mk x =>
      cases ht : strOfNums ys with
      | mk y =>
        rw [hs, ht] at h
        simp at h
        rw [h]
  · intro h; rw [h]

def clashB (zs ys : List Int) : Bool := decide (zs ≠ ys ∧ sumL zs = sumL ys)

/-- Whether a clash is one. -/
def isClashB (f : Bool) (zs ys : List Int) : Bool := f && (decide (zs.length ≤ 300) && (decide (ys.length ≤ 300) && clashB zs ys))

end Go.Proofs.YtkjhcblfkpknlaaDoor

namespace Go.Proofs.YtkjhcblfkpknlaaDoor
open Go.ChangeShapes Go.WideShapes Go.ChangeAt Go.RowKit
set_option maxRecDepth 100000
set_option linter.unusedVariables false
set_option linter.unusedSimpArgs false

theorem Has.setCell {w : World} {k : IntKind} {g o len : Nat} {zs : List Int} (h : Has w k (some ⟨g, o, none⟩) len zs) {b p : Nat} (hne : b ≠ g) (u : Value) : Has (w.setCell ⟨b, p, none⟩ u) k (some ⟨g, o, none⟩) len zs := by
  refine ⟨h.1, h.2.1, h.2.2.imp id ?_⟩
  rintro ⟨b', off, hb, hlt, hc⟩
  simp at hb
  obtain ⟨rfl, rfl⟩ := hb
  exact ⟨g, o, rfl, by simpa using hlt, fun i hi => (World.cell?_of_block (w := w) (Below.heap_setCell w ⟨b, p, none⟩ u g (Ne.symm hne))).trans (hc i hi)⟩

end Go.Proofs.YtkjhcblfkpknlaaDoor
