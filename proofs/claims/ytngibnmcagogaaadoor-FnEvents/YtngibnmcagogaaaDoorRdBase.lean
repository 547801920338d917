/- What the model reads of bytes, in plain words; bytes that are too short; parts of a row. -/
import Derived.Test.YtngibnmcagogaaaDoorGet
import Derived.Test.YtngibnmcagogaaaDoorEvt
import Derived.Test.YtngibnmcagogaaaDoorPiece
import Derived.Test.YtngibnmcagogaaaDoorMarkI
import Derived.Test.YtngibnmcagogaaaDoorPackE
namespace Go.Proofs.YtngibnmcagogaaaDoor
open Go.ChangeShapes Go.WideShapes Go.ChangeAt Go.RowKit
set_option maxRecDepth 100000
set_option linter.unusedVariables false
set_option linter.unusedSimpArgs false

def zAt (zs : List Int) (i : Nat) : Int := zs.getD i 0
def rdM (zs : List Int) : Nat := (zAt zs 12).toNat
def rdV (zs : List Int) : Int := 256 * zAt zs 1 + zAt zs 2
def rdX (zs : List Int) : Int := wrap64 (getN (zs.drop 4) 8)
def rdZ (zs : List Int) : List Int := (zs.drop 13).take (rdM zs)
/-- There is an event at the beginning. -/
def rdLong (zs : List Int) : Prop := 13 ≤ zs.length ∧ 13 + rdM zs ≤ zs.length
theorem zAt_bd {zs : List Int} (hwf : ∀ n ∈ zs, (Lit.int .u8 n).wf = true) (i : Nat) : 0 ≤ zAt zs i ∧ zAt zs i ≤ 255 := by
  have := range_u8 hwf i
  simpa [zAt, List.getD] using this
theorem rdM_eq {zs : List Int} (hwf : ∀ n ∈ zs, (Lit.int .u8 n).wf = true) : (rdM zs : Int) = zAt zs 12 := by
  have := zAt_bd hwf 12
  unfold rdM; omega
theorem rdX_bd (zs : List Int) : -9223372036854775808 ≤ rdX zs ∧ rdX zs ≤ 9223372036854775807 := by
  unfold rdX wrap64; omega
theorem rdZ_len {zs : List Int} (h : rdLong zs) : (rdZ zs).length = rdM zs := by
  unfold rdZ; have := h.2; simp; omega

set_option maxHeartbeats 2000000 in
theorem l3Read_short (a : Option Addr) (cap : Nat) (zs : List Int) (w : World) (hz : Has w .u8 a zs.length zs) (hl : zs.length ≤ 1048576) (h : ¬ rdLong zs) :
    Calls Tryd.prog 82 #[.slice a zs.length cap] w fun r w' => r = .returned (.tuple #[.agg #[.int .i64 0, .int .i64 0, .int .i64 0, .int .i64 0, .slice none 0 0], .int .i64 0, .bool false]) ∧ Below w.heap.size w w' := by
  by_cases h13 : zs.length < 13
  · have h13' : (zs.length : Int) < 13 := by omega
    go_enter Tryd.func82, Tryd.ntmps82
    go_wp2
    refine bodyPost_ret (v := .tuple #[.agg #[.int .i64 0, .int .i64 0, .int .i64 0, .int .i64 0, .slice none 0 0], .int .i64 0, .bool false]) (by simp [results, Tryd.results82, go_sem]) rfl ⟨rfl, ?_⟩
    repeat (first | exact Below.refl _ _ | refine Below.alloc ?_ (by (try simp) <;> omega) _ | refine Below.setCell ?_ (by (try simp) <;> omega) _)
  · have h13' : (13 : Int) ≤ (zs.length : Int) := by omega
    have h12 : (12 : Int) < (zs.length : Int) := by omega
    have hb := zAt_bd hz.2.1 12
    have hm := rdM_eq hz.2.1
    have hlt : (zs.length : Int) < 13 + zAt zs 12 := by
      rw [← hm]
      have : ¬ 13 + rdM zs ≤ zs.length := fun q => h ⟨by omega, q⟩
      omega
    obtain ⟨_, _, hc⟩ := hz
    rcases hc with h0 | ⟨b, off, rfl, hbl, hcell⟩
    · omega
    · have hx : w.cell? ⟨b, off + 12, none⟩ = some (.int .u8 (zAt zs 12)) := hcell 12 (by omega)
      generalize zAt zs 12 = y at hb hlt hx hm
      clear hcell h hm h13
      go_enter Tryd.func82, Tryd.ntmps82
      go_wp2
      refine bodyPost_ret (v := .tuple #[.agg #[.int .i64 0, .int .i64 0, .int .i64 0, .int .i64 0, .slice none 0 0], .int .i64 0, .bool false]) (by simp [results, Tryd.results82, go_sem]) rfl ⟨rfl, ?_⟩
      repeat (first | exact Below.refl _ _ | refine Below.alloc ?_ (by (try simp) <;> omega) _ | refine Below.setCell ?_ (by (try simp) <;> omega) _)

theorem Has.drop {w : World} {k : IntKind} {b off : Nat} {zs : List Int} (h : Has w k (some ⟨b, off, none⟩) zs.length zs) (i n : Nat) (hn : i + n ≤ zs.length) : Has w k (some ⟨b, off + i, none⟩) ((zs.drop i).take n).length ((zs.drop i).take n) := by
  refine ⟨rfl, fun x hx => h.2.1 x (List.mem_of_mem_drop (List.mem_of_mem_take hx)), ?_⟩
  by_cases h0 : n = 0
  · exact .inl (by simp [h0])
  · rcases h.2.2 with c | ⟨b', off', e, hlt, hc⟩
    · omega
    · simp at e
      obtain ⟨rfl, rfl⟩ := e
      refine .inr ⟨b, off + i, rfl, hlt, fun j hj => ?_⟩
      simp at hj
      have := hc (i + j) (by omega)
      rw [show off + i + j = off + (i + j) by omega, this]
      simp [List.getD, List.getElem?_take, List.getElem?_drop, show j < n by omega]
theorem wrap_i64' {y : Int} (h0 : -9223372036854775808 ≤ y) (h1 : y ≤ 9223372036854775807) : IntKind.i64.wrap y = y := by rw [IntKind.wrap_i64]; omega
theorem EvAt.set {w : World} {b g o : Nat} {s v k x : Int} {a : Option Addr} {n c : Nat} (h : EvAt w b s v k x a n c) (hne : b ≠ g) (u : Value) : EvAt (w.setCell ⟨g, o, none⟩ u) b s v k x a n c := by
  have hb := Below.heap_setCell w ⟨g, o, none⟩ u b hne
  exact ⟨(World.cell?_of_block (w := w) (a := ⟨b, 0, none⟩) hb).trans h.c0, (World.cell?_of_block (w := w) (a := ⟨b, 1, none⟩) hb).trans h.c1, (World.cell?_of_block (w := w) (a := ⟨b, 2, none⟩) hb).trans h.c2, (World.cell?_of_block (w := w) (a := ⟨b, 3, none⟩) hb).trans h.c3, (World.cell?_of_block (w := w) (a := ⟨b, 4, none⟩) hb).trans h.c4, by simpa using h.lt⟩
theorem Has.nil {w : World} {k : IntKind} {a : Option Addr} : Has w k a ([] : List Int).length [] := ⟨rfl, by simp, .inl rfl⟩

end Go.Proofs.YtngibnmcagogaaaDoor
