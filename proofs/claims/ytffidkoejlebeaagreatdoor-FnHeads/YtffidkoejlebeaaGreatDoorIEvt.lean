/- Contracts of the model's chapter 3: the faults of an event. Contracts of the model of chapter 2: clashes. Contracts of the laws' own functions over clashes: copied, held against each other, their size. Contracts of the model's chapter 3: events held against each other. Contracts of the program's chapter 2: whether two pieces clash. Contracts of the program's chapter 3: the faults of an event, events held against each other. -/
import Derived.Test.YtffidkoejlebeaaGreatDoorCanon
import Derived.Test.YtffidkoejlebeaaGreatDoorRegB
import Derived.Test.YtffidkoejlebeaaGreatDoorHdD
import Derived.Laws.BytesArg
import Derived.Deep.RegionHeld3
import Derived.Deep.DeepCutAuto
namespace Go.Proofs.YtffidkoejlebeaaGreatDoor
open Go.ChangeShapes Go.WideShapes Go.ChangeAt Go.RowKit
set_option maxRecDepth 100000
set_option linter.unusedVariables false
set_option linter.unusedSimpArgs false

/-- An event at block b. -/
structure EvAt (w : World) (b : Nat) (s v k x : Int) (a : Option Addr) (n c : Nat) : Prop where
  c0 : w.cell? ⟨b, 0, none⟩ = some (.int .i64 s)
  c1 : w.cell? ⟨b, 1, none⟩ = some (.int .i64 v)
  c2 : w.cell? ⟨b, 2, none⟩ = some (.int .i64 k)
  c3 : w.cell? ⟨b, 3, none⟩ = some (.int .i64 x)
  c4 : w.cell? ⟨b, 4, none⟩ = some (.slice a n c)
  lt : b < w.heap.size
theorem EvAt.below {w w' : World} {b : Nat} {s v k x : Int} {a : Option Addr} {n c : Nat} (h : EvAt w b s v k x a n c) (hb : Below w.heap.size w w') : EvAt w' b s v k x a n c :=
  ⟨(hb.cell (p := ⟨b, 0, none⟩) h.lt).trans h.c0, (hb.cell (p := ⟨b, 1, none⟩) h.lt).trans h.c1, (hb.cell (p := ⟨b, 2, none⟩) h.lt).trans h.c2, (hb.cell (p := ⟨b, 3, none⟩) h.lt).trans h.c3, (hb.cell (p := ⟨b, 4, none⟩) h.lt).trans h.c4, Nat.lt_of_lt_of_le h.lt hb.size⟩
theorem EvAt.new (w : World) (s v k x : Int) (a : Option Addr) (n c T : Nat) : EvAt (w.alloc (.cells #[.int .i64 s, .int .i64 v, .int .i64 k, .int .i64 x, .slice a n c] T)) w.heap.size s v k x a n c := by
  constructor <;> simp [go_sem]

/-- The first code of an event that is so. -/
def evF (s v k x : Int) (n : Nat) : Int := if ¬ ((0 ≤ s ∧ s ≤ 63) ∧ (0 ≤ v ∧ v ≤ 999) ∧ 0 ≤ k ∧ k ≤ 9) then 3 else if ¬ x = canon x then 1 else if 12 < n then 2 else 0

end Go.Proofs.YtffidkoejlebeaaGreatDoor

namespace Go.Proofs.YtffidkoejlebeaaGreatDoor
open Go.ChangeShapes Go.WideShapes Go.ChangeAt Go.RowKit
set_option maxRecDepth 100000
set_option linter.unusedVariables false
set_option linter.unusedSimpArgs false

theorem Has.str {w : World} {a : Option Addr} {zs : List Int} (h : Has w .u8 a zs.length zs) (cap : Nat) : (convert 22 9 (.slice a zs.length cap)).run Tryz.prog w = .ok (.string (strOfNums zs)) w := by
  cases a with
  | none =>
    have h0 : zs.length = 0 := by
      rcases h.2.2 with c | ⟨_, _, c, _⟩
      · exact c
      · cases c
    obtain rfl : zs = [] := List.eq_nil_of_length_eq_zero h0
    exact run_convert_bytes_nil w _ _ Tryz.underlying22 Tryz.underlying5 _ _ _ Tryz.underlying9
  | some ad =>
    have hl := run_loadCells_list (P := Tryz.prog) w ad (zs.map (Value.int .u8)) h.news
    rw [List.length_map] at hl
    rw [run_convert_bytes_string w _ _ 5 _ _ _ Tryz.underlying22 Tryz.underlying5 Tryz.underlying9, run_bytesToString w _ _ cap zs hl, foldl_push_bytes]
    simp [strOfNums, ByteArray.empty, ByteArray.emptyWithCapacity]
    rfl
theorem str_inj {zs ys : List Int} (hz : ∀ n ∈ zs, (Lit.int .u8 n).wf = true) (hy : ∀ n ∈ ys, (Lit.int .u8 n).wf = true) : strOfNums zs = strOfNums ys ↔ zs = ys := by
  constructor
  · intro h
    have e : (zs.map fun n => UInt8.ofNat n.toNat) = ys.map fun n => UInt8.ofNat n.toNat := by
      have := congrArg (fun s => s.data.toList) h
      simpa [strOfNums_data] using this
    have back : ∀ l : List Int, (∀ n ∈ l, (Lit.int .u8 n).wf = true) → (l.map fun n => UInt8.ofNat n.toNat).map (fun c => (c.toNat : Int)) = l := by
      intro l
      induction l with
      | nil => intro _; rfl
      | cons x l ih =>
        intro hx
        have hb := bounds_u8 (hx x List.mem_cons_self)
        have ht : ((UInt8.ofNat x.toNat).toNat : Int) = x := by
          rw [UInt8.toNat_ofNat']
          omega
        simp only [List.map_cons, ht]
        rw [ih (fun n hn => hx n (List.mem_cons_of_mem _ hn))]
    rw [← back zs hz, ← back ys hy, e]
  · intro h; rw [h]

theorem own_shape {w : World} {base e n : Nat} {v : Value} {xs : List Value} (h : w.ownsRow base e 1 v n xs) : ∃ a c, v = .slice a n c := by
  rcases h.2 with ⟨rfl, h0⟩ | ⟨g, cap, cur, rfl, _⟩
  · exact ⟨none, 0, by rw [h0]⟩
  · exact ⟨_, cap, rfl⟩
theorem str_beq {zs ys : List Int} (hz : ∀ n ∈ zs, (Lit.int .u8 n).wf = true) (hy : ∀ n ∈ ys, (Lit.int .u8 n).wf = true) : ((strOfNums zs).toList == (strOfNums ys).toList) = decide (zs = ys) := by
  rw [Bool.eq_iff_iff, beq_iff_eq, decide_eq_true_iff, ← str_inj hz hy]
  constructor
  · intro h
    rw [ByteArray.toList_eq, ByteArray.toList_eq] at h
    cases hs : strOfNums zs with
    | mk x =>
      cases ht : strOfNums ys with
      | mk y =>
        rw [hs, ht] at h
        simp at h
        rw [h]
  · intro h; rw [h]

def clashB (zs ys : List Int) : Bool := decide (zs ≠ ys ∧ sumL zs = sumL ys)

/-- Whether a clash is one. -/
def isClashB (f : Bool) (zs ys : List Int) : Bool := f && (decide (zs.length ≤ 300) && (decide (ys.length ≤ 300) && clashB zs ys))

end Go.Proofs.YtffidkoejlebeaaGreatDoor

namespace Go.Proofs.YtffidkoejlebeaaGreatDoor
open Go.ChangeShapes Go.WideShapes Go.ChangeAt Go.RowKit
set_option maxRecDepth 100000
set_option linter.unusedVariables false
set_option linter.unusedSimpArgs false

theorem Has.setCell {w : World} {k : IntKind} {g o len : Nat} {zs : List Int} (h : Has w k (some ⟨g, o, none⟩) len zs) {b p : Nat} (hne : b ≠ g) (u : Value) : Has (w.setCell ⟨b, p, none⟩ u) k (some ⟨g, o, none⟩) len zs := by
  refine ⟨h.1, h.2.1, h.2.2.imp id ?_⟩
  rintro ⟨b', off, hb, hlt, hc⟩
  simp at hb
  obtain ⟨rfl, rfl⟩ := hb
  exact ⟨g, o, rfl, by simpa using hlt, fun i hi => (World.cell?_of_block (w := w) (Below.heap_setCell w ⟨b, p, none⟩ u g (Ne.symm hne))).trans (hc i hi)⟩

end Go.Proofs.YtffidkoejlebeaaGreatDoor

namespace Go.Proofs.YtffidkoejlebeaaGreatDoor
open Go.ChangeShapes Go.WideShapes Go.ChangeAt Go.RowKit
set_option maxRecDepth 100000
set_option linter.unusedVariables false
set_option linter.unusedSimpArgs false

/-- Whether two events are the same. -/
def sameE (s v k x s' v' k' x' : Int) (zs ys : List Int) : Bool := decide (s = s') && (decide (v = v') && (decide (k = k') && (decide (x = x') && decide (zs = ys))))

end Go.Proofs.YtffidkoejlebeaaGreatDoor

namespace Go.Proofs.YtffidkoejlebeaaGreatDoor
open Go.ChangeShapes Go.WideShapes Go.ChangeAt Go.RowKit
set_option maxRecDepth 100000
set_option linter.unusedVariables false
set_option linter.unusedSimpArgs false

theorem bytesEqual_any (a b : Option Addr) (ca cb : Nat) (zs ys : List Int) (w : World) (ha : Has w .u8 a zs.length zs) (hb : Has w .u8 b ys.length ys) :
    Calls Tryz.prog 34 #[.slice a zs.length ca, .slice b ys.length cb] w fun r w' => r = .returned (.bool (decide (zs = ys))) ∧ w' = w := by
  have s1 := ha.str ca
  have s2 := hb.str cb
  have hst := str_beq ha.2.1 hb.2.1
  have HS : Hid (_) := hst
  clear hst
  go_enter Tryz.func34, Tryz.ntmps34
  go_wp2
  go_ret
  exact ⟨ret_bool HS.out, rfl⟩

theorem Has.drew {w : World} {k : IntKind} {a : Option Addr} {len : Nat} {zs : List Int} (h : Has w k a len zs) : Has w.drew k a len zs := h.below (Below.refl _ _).drew (Nat.le_refl _)

theorem bsize {W w1 : World} (hb : Below W.heap.size W w1) : (∀ x : Nat, x < W.heap.size → ¬ x = w1.heap.size) ∧ (∀ x : Nat, x < W.heap.size → ¬ w1.heap.size = x) ∧ (∀ x : Nat, x < W.heap.size → x < w1.heap.size) := by
  have := hb.size
  exact ⟨fun x h => by omega, fun x h => by omega, fun x h => by omega⟩

end Go.Proofs.YtffidkoejlebeaaGreatDoor

namespace Go.Proofs.YtffidkoejlebeaaGreatDoor
open Go.ChangeShapes Go.WideShapes Go.ChangeAt Go.RowKit
set_option maxRecDepth 100000
set_option linter.unusedVariables false
set_option linter.unusedSimpArgs false

theorem isFrom0_any (n m : Int) (w : World) : Calls Tryz.prog 65 #[.int .i64 n, .int .i64 m] w fun r w' => r = .returned (.bool (decide (0 ≤ n ∧ n ≤ m))) ∧ w' = w := by
  by_cases h : 0 ≤ n
  · go_enter Tryz.func65, Tryz.ntmps65
    go_wp2
    go_ret
    exact ⟨ret_bool (by simp [h]), rfl⟩
  · go_enter Tryz.func65, Tryz.ntmps65
    go_wp2
    go_ret
    exact ⟨ret_bool (by simp; omega), rfl⟩

end Go.Proofs.YtffidkoejlebeaaGreatDoor
