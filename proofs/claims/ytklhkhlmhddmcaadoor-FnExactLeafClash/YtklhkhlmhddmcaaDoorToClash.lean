/- Contracts of the model of chapter 2: clashes. Contracts of the laws' own functions over clashes: copied, held against each other, their size. -/
import Derived.Test.YtklhkhlmhddmcaaDoorPiece
import Derived.Laws.BytesArg
namespace Go.Proofs.YtklhkhlmhddmcaaDoor
open Go.ChangeShapes Go.WideShapes Go.ChangeAt Go.RowKit
set_option maxRecDepth 100000
set_option linter.unusedVariables false
set_option linter.unusedSimpArgs false

theorem Has.str {w : World} {a : Option Addr} {zs : List Int} (h : Has w .u8 a zs.length zs) (cap : Nat) : (convert 22 9 (.slice a zs.length cap)).run Tryd.prog w = .ok (.string (strOfNums zs)) w := by
  cases a with
  | none =>
    have h0 : zs.length = 0 := by
      rcases h.2.2 with c | ⟨_, _, c, _⟩
      · exact c
      · cases c
    obtain rfl : zs = [] := List.eq_nil_of_length_eq_zero h0
    exact run_convert_bytes_nil w _ _ Tryd.underlying22 Tryd.underlying5 _ _ _ Tryd.underlying9
  | some ad =>
    have hl := run_loadCells_list (P := Tryd.prog) w ad (zs.map (Value.int .u8)) h.news
    rw [List.length_map] at hl
    rw [run_convert_bytes_string w _ _ 5 _ _ _ Tryd.underlying22 Tryd.underlying5 Tryd.underlying9, run_bytesToString w _ _ cap zs hl, foldl_push_bytes]
    simp [strOfNums, ByteArray.empty, ByteArray.emptyWithCapacity]
    rfl
theorem str_inj {zs ys : List Int} (hz : ∀ n ∈ zs, (Lit.int .u8 n).wf = true) (hy : ∀ n ∈ ys, (Lit.int .u8 n).wf = true) : strOfNums zs = strOfNums ys ↔ zs = ys := by
  constructor
  · intro h
    have e : (zs.map fun n => UInt8.ofNat n.toNat) = ys.map fun n => UInt8.ofNat n.toNat := by
      have := congrArg (fun s => s.data.toList) h
      simpa [strOfNums_data] using this
    have back : ∀ l : List Int, (∀ n ∈ l, (Lit.int .u8 n).wf = true) → (l.map fun n => UInt8.ofNat n.toNat).map (fun c => (c.toNat : Int)) = l := by
      intro l
      induction l with
      | nil => intro _; rfl
      | cons x l ih =>
        intro hx
        have hb := bounds_u8 (hx x List.mem_cons_self)
        have ht : ((UInt8.ofNat x.toNat).toNat : Int) = x := by
          rw [UInt8.toNat_ofNat']
          omega
        simp only [List.map_cons, ht]
        rw [ih (fun n hn => hx n (List.mem_cons_of_mem _ hn))]
    rw [← back zs hz, ← back ys hy, e]
  · intro h; rw [h]

theorem own_shape {w : World} {base e n : Nat} {v : Value} {xs : List Value} (h : w.ownsRow base e 1 v n xs) : ∃ a c, v = .slice a n c := by
  rcases h.2 with ⟨rfl, h0⟩ | ⟨g, cap, cur, rfl, _⟩
  · exact ⟨none, 0, by rw [h0]⟩
  · exact ⟨_, cap, rfl⟩
theorem str_beq {zs ys : List Int} (hz : ∀ n ∈ zs, (Lit.int .u8 n).wf = true) (hy : ∀ n ∈ ys, (Lit.int .u8 n).wf = true) : ((strOfNums zs).toList == (strOfNums ys).toList) = decide (zs = ys) := by
  rw [Bool.eq_iff_iff, beq_iff_eq, decide_eq_true_iff, ← str_inj hz hy]
  constructor
  · intro h
    rw [ByteArray.toList_eq, ByteArray.toList_eq] at h
    cases hs : strOfNums zs with
    | mk x =>
      cases ht : strOfNums ys with
      | mk y =>
        rw [hs, ht] at h
        simp at h
        rw [h]
  · intro h; rw [h]

theorem copy_shape (a : Option Addr) (cap : Nat) (zs : List Int) (w : World) (h : Has w .u8 a zs.length zs) (hl : zs.length ≤ 2097152) :
    Calls Tryd.prog 96 #[.slice a zs.length cap] w fun r w' => ∃ a' c', r = .returned (.slice a' zs.length c') ∧ w'.ownsRow w.heap.size 5 1 (.slice a' zs.length c') zs.length (zs.map (.int .u8)) ∧ Below w.heap.size w w' := by
  refine (copy_any a cap zs w h hl).mono ?_
  rintro r w' ⟨v, rfl, hown, hb⟩
  obtain ⟨a', c', rfl⟩ := own_shape hown
  exact ⟨a', c', rfl, hown, hb⟩

def clashB (zs ys : List Int) : Bool := decide (zs ≠ ys ∧ sumL zs = sumL ys)

set_option maxHeartbeats 1000000 in
theorem l2Clash_any (a b : Option Addr) (ca cb : Nat) (zs ys : List Int) (w : World) (ha : Has w .u8 a zs.length zs) (hb : Has w .u8 b ys.length ys) (hla : zs.length ≤ 2097152) (hlb : ys.length ≤ 2097152) :
    Calls Tryd.prog 71 #[.slice a zs.length ca, .slice b ys.length cb] w fun r w' => ∃ a1 n1 c1 a2 n2 c2, r = .returned (.agg #[.bool (clashB zs ys), .slice a1 n1 c1, .slice a2 n2 c2]) ∧ Below w.heap.size w w' := by
  have ha' := ha.alloc (.cells #[.bool false, .slice none 0 0, .slice none 0 0] 29)
  have hb' := hb.alloc (.cells #[.bool false, .slice none 0 0, .slice none 0 0] 29)
  have s1 := ha'.str ca
  have s2 := hb'.str cb
  have hst := str_beq ha.2.1 hb.2.1
  have tok1 : True := trivial
  have tok2 : True := trivial
  by_cases he : zs = ys
  · have hst' : ((strOfNums zs).toList == (strOfNums ys).toList) = true := by rw [hst]; simpa using he
    have hcl : clashB zs ys = false := by unfold clashB; simp [he]
    rw [hcl]
    clear hst he hcl
    go_enter Tryd.func71, Tryd.ntmps71
    go_wp2
    refine bodyPost_ret (v := .agg #[.bool false, .slice none 0 0, .slice none 0 0]) (by simp [results, Tryd.results71, go_sem]) rfl ⟨_, _, _, _, _, _, rfl, ?_⟩
    repeat (first | exact Below.refl _ _ | refine Below.alloc ?_ (by (try simp) <;> omega) _ | refine Below.setCell ?_ (by (try simp) <;> omega) _)
  · have hst' : ((strOfNums zs).toList == (strOfNums ys).toList) = false := by rw [hst]; simpa using he
    by_cases hs : sumL zs = sumL ys
    · have hcl : clashB zs ys = true := by unfold clashB; simp [he, hs]
      have hs' : (sumL zs != sumL ys) = false := by simpa using hs
      rw [hcl]
      clear hst he hcl hs
      go_enter Tryd.func71, Tryd.ntmps71
      go_wp2_with (first | (go_at_call 100; have _t := tok1; refine (l2Sum_any a ca zs _ ha' hla).mono ?_; rintro r u ⟨rfl, rfl⟩; clear tok1 _t) | (go_at_call 100; have _t := tok2; refine (l2Sum_any b cb ys _ hb' hlb).mono ?_; rintro r u ⟨rfl, rfl⟩; clear tok2 _t; have tok3 : True := trivial) | (go_at_call 96; have _t := tok3; refine (copy_shape a ca zs _ ha' hla).mono ?_; rintro r u1 ⟨a1, c1, rfl, ho1, hb1⟩; clear tok3 _t; have hb2' := hb'.below hb1 (Nat.le_refl _)) | (go_at_call 96; refine (copy_shape b cb ys _ hb2' hlb).mono ?_; rintro r u2 ⟨a2, c2, rfl, ho2, hb2⟩; have hB := hb1.trans (hb2.mono hb1.size); obtain ⟨hc2, hf2⟩ := bcell hB; have hz2 := hB.size; (try simp at hz2)))
      refine bodyPost_ret (v := .agg #[.bool true, .slice a1 zs.length c1, .slice a2 ys.length c2]) (by simp [results, Tryd.results71, go_sem, hc2]) rfl ⟨_, _, _, _, _, _, rfl, ?_⟩
      exact (((((Below.refl _ _).alloc (Nat.le_refl _) _).trans (hB.mono (by simp))).setCell (by simp) _).setCell (by simp) _).setCell (by simp) _
    · have hcl : clashB zs ys = false := by unfold clashB; simp [hs]
      have hs' : (sumL zs != sumL ys) = true := by simpa using hs
      rw [hcl]
      clear hst he hcl hs
      go_enter Tryd.func71, Tryd.ntmps71
      go_wp2_with (first | (go_at_call 100; have _t := tok1; refine (l2Sum_any a ca zs _ ha' hla).mono ?_; rintro r u ⟨rfl, rfl⟩; clear tok1 _t) | (go_at_call 100; have _t := tok2; refine (l2Sum_any b cb ys _ hb' hlb).mono ?_; rintro r u ⟨rfl, rfl⟩; clear tok2 _t))
      refine bodyPost_ret (v := .agg #[.bool false, .slice none 0 0, .slice none 0 0]) (by simp [results, Tryd.results71, go_sem]) rfl ⟨_, _, _, _, _, _, rfl, ?_⟩
      repeat (first | exact Below.refl _ _ | refine Below.alloc ?_ (by (try simp) <;> omega) _ | refine Below.setCell ?_ (by (try simp) <;> omega) _)

/-- Whether a clash is one. -/
def isClashB (f : Bool) (zs ys : List Int) : Bool := f && (decide (zs.length ≤ 300) && (decide (ys.length ≤ 300) && clashB zs ys))

theorem clash_fld (f : Bool) (a1 a2 : Option Addr) (n1 c1 n2 c2 : Nat) (w : World) : (Instr.field 29 (.agg #[.bool f, .slice a1 n1 c1, .slice a2 n2 c2]) 0).run Tryd.prog w = .ok (.bool f) w := by kernel_rfl

end Go.Proofs.YtklhkhlmhddmcaaDoor

namespace Go.Proofs.YtklhkhlmhddmcaaDoor
open Go.ChangeShapes Go.WideShapes Go.ChangeAt Go.RowKit
set_option maxRecDepth 100000
set_option linter.unusedVariables false
set_option linter.unusedSimpArgs false

theorem szByteS_any (a : Option Addr) (len cap : Nat) (n : Int) (w : World) (hn : -1 ≤ n) (hn2 : n ≤ 1048576) (hl : len ≤ 9223372036854775807) :
    Calls Tryd.prog 90 #[.slice a len cap, .int .i64 n] w fun r w' => r = .returned (.int .i64 (if n - len < 0 then -1 else n - len)) ∧ w' = w := by
  by_cases h : n - (len : Int) < 0
  · rw [if_pos h]
    go_enter Tryd.func90, Tryd.ntmps90
    go_wp2
    go_ret
    exact ⟨rfl, rfl⟩
  · rw [if_neg h]
    have h' : 0 ≤ n - (len : Int) := by omega
    go_enter Tryd.func90, Tryd.ntmps90
    go_wp2
    go_ret
    exact ⟨rfl, rfl⟩

theorem Has.setCell {w : World} {k : IntKind} {g o len : Nat} {zs : List Int} (h : Has w k (some ⟨g, o, none⟩) len zs) {b p : Nat} (hne : b ≠ g) (u : Value) : Has (w.setCell ⟨b, p, none⟩ u) k (some ⟨g, o, none⟩) len zs := by
  refine ⟨h.1, h.2.1, h.2.2.imp id ?_⟩
  rintro ⟨b', off, hb, hlt, hc⟩
  simp at hb
  obtain ⟨rfl, rfl⟩ := hb
  exact ⟨g, o, rfl, by simpa using hlt, fun i hi => (World.cell?_of_block (w := w) (Below.heap_setCell w ⟨b, p, none⟩ u g (Ne.symm hne))).trans (hc i hi)⟩

set_option maxHeartbeats 1000000 in
theorem eqClash_any (f : Bool) (a b c d : Option Addr) (ca cb cc cd : Nat) (zs ys : List Int) (w : World) (ha : Has w .u8 a zs.length zs) (hb : Has w .u8 b ys.length ys) (hc : Has w .u8 c zs.length zs) (hd : Has w .u8 d ys.length ys) (hla : zs.length ≤ 1048576) (hlb : ys.length ≤ 1048576) :
    Calls Tryd.prog 91 #[.agg #[.bool f, .slice a zs.length ca, .slice b ys.length cb], .agg #[.bool f, .slice c zs.length cc, .slice d ys.length cd]] w fun r w' => r = .returned (.bool true) ∧ Below w.heap.size w w' := by
  have hff : (f != f) = false := by simp
  have A := (ha.alloc (.cells #[.bool f, .slice a zs.length ca, .slice b ys.length cb] 29)).alloc (.cells #[.bool f, .slice c zs.length cc, .slice d ys.length cd] 29)
  have B := (hb.alloc (.cells #[.bool f, .slice a zs.length ca, .slice b ys.length cb] 29)).alloc (.cells #[.bool f, .slice c zs.length cc, .slice d ys.length cd] 29)
  have C := (hc.alloc (.cells #[.bool f, .slice a zs.length ca, .slice b ys.length cb] 29)).alloc (.cells #[.bool f, .slice c zs.length cc, .slice d ys.length cd] 29)
  have D := (hd.alloc (.cells #[.bool f, .slice a zs.length ca, .slice b ys.length cb] 29)).alloc (.cells #[.bool f, .slice c zs.length cc, .slice d ys.length cd] 29)
  go_enter Tryd.func91, Tryd.ntmps91
  go_wp2_with fail
  refine (eqBytes_any a c ca cc zs _ A C hla).mono ?_
  rintro r u1 ⟨rfl, hb1⟩
  obtain ⟨hc1, hf1⟩ := bcell hb1
  have B1 := B.below hb1 (Nat.le_refl _)
  have D1 := D.below hb1 (Nat.le_refl _)
  go_wp2_with fail
  refine (eqBytes_any b d cb cd ys _ B1 D1 hlb).mono ?_
  rintro r u2 ⟨rfl, hb2⟩
  go_wp2
  go_ret
  exact ⟨rfl, ((((Below.refl _ _).alloc (Nat.le_refl _) _).alloc (by simp) _).trans (hb1.mono (by simp; omega))).trans (hb2.mono (by have := hb1.size; simp at this; omega))⟩

end Go.Proofs.YtklhkhlmhddmcaaDoor
