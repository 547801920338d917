/- Contracts of the laws' own functions that write into bytes and look whether they are still there. -/
import Derived.Test.YtnlipmfhilgipabIBytes
namespace Go.Proofs.Ytnlipmfhilgipab
open Go.ChangeShapes Go.WideShapes Go.ChangeAt Go.RowKit
set_option linter.unusedVariables false
set_option linter.unusedSimpArgs false

/-- Nothing has turned but the block of a slice. -/
structure Mk (a : Option Addr) (w w' : World) : Prop where
  os : w'.os = w.os
  tape : w'.tape = w.tape
  output : w'.output = w.output
  size : w'.heap.size = w.heap.size
  block : ∀ k, (∀ ad, a = some ad → k ≠ ad.block) → w'.heap[k]? = w.heap[k]?
theorem Mk.refl (a : Option Addr) (w : World) : Mk a w w := ⟨rfl, rfl, rfl, rfl, fun _ _ => rfl⟩
theorem Mk.store {g o : Nat} {w w' : World} (h : Mk (some ⟨g, 0, none⟩) w w') (u : Value) : Mk (some ⟨g, 0, none⟩) w (w'.setCell ⟨g, o, none⟩ u) :=
  ⟨h.os, h.tape, h.output, (by simpa [World.setCell] using h.size), fun k hk => (Below.heap_setCell w' ⟨g, o, none⟩ u k (show k ≠ g from hk ⟨g, 0, none⟩ rfl)).trans (h.block k hk)⟩
theorem Mk.below {a : Option Addr} {B : Nat} {w w' : World} (h : Mk a w w') (hB : ∀ ad, a = some ad → B ≤ ad.block) : Below B w w' :=
  ⟨h.os, h.tape, h.output, Nat.le_of_eq h.size.symm, fun k hk => h.block k (fun ad had => by have := hB ad had; omega)⟩
theorem Mk.own {a : Option Addr} {w w' : World} (h : Mk a w w') {base e n : Nat} {v : Value} {xs : List Value} (ho : w.ownsRow base e 1 v n xs) (hB : ∀ ad, a = some ad → ad.block < base) : w'.ownsRow base e 1 v n xs := by
  refine ⟨ho.1, ho.2.imp id ?_⟩
  rintro ⟨g', cap, cur, e1, e2, e3, e4⟩
  exact ⟨g', cap, cur, e1, e2, (h.block g' (fun ad had => by have := hB ad had; omega)).trans e3, e4⟩
theorem own_below {w w' : World} {base e n : Nat} {v : Value} {xs : List Value} (ho : w.ownsRow base e 1 v n xs) (h : Below w.heap.size w w') : w'.ownsRow base e 1 v n xs := by
  refine ⟨ho.1, ho.2.imp id ?_⟩
  rintro ⟨g', cap, cur, e1, e2, e3, e4⟩
  exact ⟨g', cap, cur, e1, e2, (h.block g' (Array.getElem?_eq_some_iff.1 e3).1).trans e3, e4⟩
theorem own_base {w : World} {base e n c : Nat} {a : Option Addr} {xs : List Value} (ho : w.ownsRow base e 1 (.slice a n c) n xs) : ∀ ad, a = some ad → base ≤ ad.block := by
  intro ad had
  subst had
  rcases ho.2 with ⟨e1, _⟩ | ⟨g, _, _, e1, hb, _⟩
  · simp at e1
  · simp at e1
    rw [e1.1]
    exact hb

/-- Bytes of a block below B. -/
def HasIn (B : Nat) (w : World) (a : Option Addr) (zs : List Int) : Prop :=
  (∀ n ∈ zs, (Lit.int .u8 n).wf = true) ∧ (zs.length = 0 ∨ ∃ b off, a = some ⟨b, off, none⟩ ∧ b < B ∧ ∀ i, i < zs.length → w.cell? ⟨b, off + i, none⟩ = some (.int .u8 (zs.getD i 0)))
theorem HasIn.of {w : World} {a : Option Addr} {zs : List Int} (h : Has w .u8 a zs.length zs) : HasIn w.heap.size w a zs := ⟨h.2.1, h.2.2⟩
theorem HasIn.below {B : Nat} {w w' : World} {a : Option Addr} {zs : List Int} (h : HasIn B w a zs) (hb : Below B w w') : HasIn B w' a zs := by
  refine ⟨h.1, h.2.imp id ?_⟩
  rintro ⟨b, off, ha, hlt, hc⟩
  exact ⟨b, off, ha, hlt, fun i hi => (hb.cell (p := ⟨b, off + i, none⟩) hlt).trans (hc i hi)⟩
theorem HasIn.has {B : Nat} {w : World} {a : Option Addr} {zs : List Int} (h : HasIn B w a zs) (hB : B ≤ w.heap.size) : Has w .u8 a zs.length zs := by
  refine ⟨rfl, h.1, h.2.imp id ?_⟩
  rintro ⟨b, off, ha, hlt, hc⟩
  exact ⟨b, off, ha, by omega, hc⟩

/-- The bytes that are marked from k on. -/
def markL (k : Int) (n : Nat) : List Int := (List.range n).map fun (i : Nat) => (k + (i : Int)) % 256
theorem markL_len (k : Int) (n : Nat) : (markL k n).length = n := by simp [markL]
theorem markL_wf (k : Int) (n : Nat) : ∀ x ∈ markL k n, (Lit.int .u8 x).wf = true := by
  intro x hx
  simp [markL] at hx
  obtain ⟨i, _, rfl⟩ := hx
  exact wf_u8 (by omega) (by omega)
theorem markL_get (k : Int) (n i : Nat) (h : i < n) : (markL k n).getD i 0 = (k + (i : Int)) % 256 := by
  simp [markL, List.getD, List.getElem?_map, h]
def markP (k : Int) (zs : List Int) (j : Nat) : List Value := (markL k j ++ zs.drop j).map (.int .u8)
theorem markP_zero (k : Int) (zs : List Int) : markP k zs 0 = zs.map (.int .u8) := by simp [markP, markL]
theorem markP_all (k : Int) (zs : List Int) : markP k zs zs.length = (markL k zs.length).map (.int .u8) := by simp [markP]
theorem markP_set (k : Int) (zs : List Int) (j : Nat) (h : j < zs.length) : (markP k zs j).set j (.int .u8 ((k + (j : Int)) % 256)) = markP k zs (j + 1) := by
  unfold markP
  rw [← List.map_set, List.set_append_right _ _ (by rw [markL_len]; omega), markL_len, Nat.sub_self, List.drop_eq_getElem_cons h, List.set_cons_zero]
  have e : markL k (j + 1) = markL k j ++ [(k + (j : Int)) % 256] := by simp [markL, List.range_succ]
  rw [e, List.append_assoc]
  rfl
theorem markP_cell (k : Int) (zs : List Int) (j : Nat) (h : j < zs.length) : (markP k zs j)[j]? = some (.int .u8 zs[j]) := by
  unfold markP
  rw [List.getElem?_map, List.getElem?_append_right (by rw [markL_len]; omega), markL_len, Nat.sub_self, List.drop_eq_getElem_cons h]
  rfl

end Go.Proofs.Ytnlipmfhilgipab
