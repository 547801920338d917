/- Contracts of chapter 3, both sides: ReadEvent. -/
import Derived.Test.YtngibnmcagogaaaDoorReadD
import Derived.Test.YtngibnmcagogaaaDoorRead2
namespace Go.Proofs.YtngibnmcagogaaaDoor
open Go.ChangeShapes Go.WideShapes Go.ChangeAt Go.RowKit
set_option maxRecDepth 100000
set_option linter.unusedVariables false
set_option linter.unusedSimpArgs false

theorem l3Read_all (a : Option Addr) (cap : Nat) (zs : List Int) (w : World) (hz : Has w .u8 a zs.length zs) (hl : zs.length ≤ 1048576) (hcap : zs.length ≤ cap) (hcm : cap ≤ maxLen) (h : rdLong zs) :
    Calls Tryd.prog 82 #[.slice a zs.length cap] w fun r w' => ∃ a' c', r = .returned (.tuple #[.agg #[.int .i64 (zAt zs 0), .int .i64 (rdV zs), .int .i64 (zAt zs 3), .int .i64 (rdX zs), .slice a' (rdZ zs).length c'], .int .i64 (13 + rdM zs), .bool (decide (evF (zAt zs 0) (rdV zs) (zAt zs 3) (rdX zs) (rdM zs) = 0))]) ∧ w'.ownsRow w.heap.size 5 1 (.slice a' (rdZ zs).length c') (rdZ zs).length ((rdZ zs).map (.int .u8)) ∧ Below w.heap.size w w' := by
  by_cases hc : cap = 13
  · exact l3Read_13 a cap zs w hz hl hcap hcm h hc
  · exact l3Read_long a cap zs w hz hl hcap hcm h hc

set_option maxHeartbeats 2000000 in
theorem specReadEvent_any (a : Option Addr) (cap : Nat) (zs : List Int) (w : World) (hz : Has w .u8 a zs.length zs) (hl : zs.length ≤ 1048576) (hcap : zs.length ≤ cap) (hcm : cap ≤ maxLen) :
    Calls Tryd.prog 41 #[.slice a zs.length cap] w fun r w' => ∃ a' c', r = .returned (.agg #[.int .i64 (rdC zs), .int .i64 (rS zs), .int .i64 (rV zs), .int .i64 (rK zs), .int .i64 (rX zs), .slice a' (rZ zs).length c', .int .i64 (rU zs)]) ∧ w'.ownsRow w.heap.size 5 1 (.slice a' (rZ zs).length c') (rZ zs).length ((rZ zs).map (.int .u8)) ∧ Below w.heap.size w w' := by
  have hz1 := hz.alloc (.cells #[.int .i64 0, .int .i64 0, .int .i64 0, .int .i64 0, .int .i64 0, .slice none 0 0, .int .i64 0] 48)
  by_cases hlong : rdLong zs
  · by_cases hf : evF (zAt zs 0) (rdV zs) (zAt zs 3) (rdX zs) (rdM zs) = 0
    · obtain ⟨e0, e1, e2, e3, e4, e5, e6⟩ := r_ok ⟨hlong, hf⟩
      rw [e0, e1, e2, e3, e4, e5, e6]
      have hd : decide (evF (zAt zs 0) (rdV zs) (zAt zs 3) (rdX zs) (rdM zs) = 0) = true := by simpa using hf
      have L : Hid (∀ x : World, Has x .u8 a zs.length zs → _) := fun x hx => l3Read_all a cap zs x hx hl hcap hcm hlong
      rw [hd] at L
      clear e0 e1 e2 e3 e4 e5 e6 hf hd hz
      generalize zAt zs 0 = y0 at *
      generalize rdV zs = y1 at *
      generalize zAt zs 3 = y2 at *
      generalize rdX zs = y3 at *
      generalize rdZ zs = zz at *
      generalize (13 : Int) + (rdM zs : Int) = nn at *
      go_enter Tryd.func41, Tryd.ntmps41
      go_wp2_with fail
      refine (L.out _ hz1).mono ?_
      rintro r u1 ⟨a1, c1, rfl, O1, hb1⟩
      have z1 := hb1.size
      simp at z1
      have q1 : w.heap.size < u1.heap.size := by omega
      obtain ⟨hc1, hf1⟩ := bcell hb1
      have OO : Hid (World.ownsRow u1 (w.heap.size + 1) 5 1 (.slice a1 zz.length c1) zz.length (zz.map (.int .u8))) := own_mono O1 (by simp)
      clear O1
      go_wp2
      refine bodyPost_ret (v := .agg #[.int .i64 0, .int .i64 y0, .int .i64 y1, .int .i64 y2, .int .i64 y3, .slice a1 zz.length c1, .int .i64 nn]) (by simp [results, Tryd.results41, go_sem, hc1, q1]) rfl ⟨a1, c1, rfl, ?_, ?_⟩
      · refine own_mono (base := w.heap.size + 1) ?_ (by omega)
        refine World.ownsRow.alloc ?_ _
        iterate 7 (refine own_set ?_ (by omega) _)
        exact OO.out
      · refine Below.alloc ?_ (by (try simp) <;> omega) _
        iterate 7 (refine Below.setCell ?_ (by (try simp) <;> omega) _)
        exact ((Below.refl _ _).alloc (Nat.le_refl _) _).trans (hb1.mono (by simp))
    · obtain ⟨e0, e1, e2, e3, e4, e5, e6⟩ := r_bad (fun q : rdOk zs => hf q.2)
      rw [e0, e1, e2, e3, e4, e5, e6]
      have hd : decide (evF (zAt zs 0) (rdV zs) (zAt zs 3) (rdX zs) (rdM zs) = 0) = false := by simpa using hf
      have L : Hid (∀ x : World, Has x .u8 a zs.length zs → _) := fun x hx => l3Read_all a cap zs x hx hl hcap hcm hlong
      rw [hd] at L
      clear e0 e1 e2 e3 e4 e5 e6 hf hd hz
      generalize zAt zs 0 = y0 at *
      generalize rdV zs = y1 at *
      generalize zAt zs 3 = y2 at *
      generalize rdX zs = y3 at *
      generalize rdZ zs = zz at *
      generalize (13 : Int) + (rdM zs : Int) = nn at *
      go_enter Tryd.func41, Tryd.ntmps41
      go_wp2_with fail
      refine (L.out _ hz1).mono ?_
      rintro r u1 ⟨a1, c1, rfl, O1, hb1⟩
      have z1 := hb1.size
      simp at z1
      have q1 : w.heap.size < u1.heap.size := by omega
      obtain ⟨hc1, hf1⟩ := bcell hb1
      clear O1
      go_wp2
      refine bodyPost_ret (v := .agg #[.int .i64 5, .int .i64 0, .int .i64 0, .int .i64 0, .int .i64 0, .slice none 0 0, .int .i64 0]) (by simp [results, Tryd.results41, go_sem, hc1, q1]) rfl ⟨none, 0, rfl, nil_own _ _ _, ?_⟩
      refine Below.alloc ?_ (by (try simp) <;> omega) _
      iterate 7 (refine Below.setCell ?_ (by (try simp) <;> omega) _)
      exact ((Below.refl _ _).alloc (Nat.le_refl _) _).trans (hb1.mono (by simp))
  · obtain ⟨e0, e1, e2, e3, e4, e5, e6⟩ := r_bad (fun q : rdOk zs => hlong q.1)
    rw [e0, e1, e2, e3, e4, e5, e6]
    have L : Hid (∀ x : World, Has x .u8 a zs.length zs → _) := fun x hx => l3Read_short a cap zs x hx hl hlong
    clear e0 e1 e2 e3 e4 e5 e6 hz
    go_enter Tryd.func41, Tryd.ntmps41
    go_wp2_with fail
    refine (L.out _ hz1).mono ?_
    rintro r u1 ⟨rfl, hb1⟩
    have z1 := hb1.size
    simp at z1
    have q1 : w.heap.size < u1.heap.size := by omega
    obtain ⟨hc1, hf1⟩ := bcell hb1
    go_wp2
    refine bodyPost_ret (v := .agg #[.int .i64 5, .int .i64 0, .int .i64 0, .int .i64 0, .int .i64 0, .slice none 0 0, .int .i64 0]) (by simp [results, Tryd.results41, go_sem, hc1, q1]) rfl ⟨none, 0, rfl, nil_own _ _ _, ?_⟩
    refine Below.alloc ?_ (by (try simp) <;> omega) _
    iterate 7 (refine Below.setCell ?_ (by (try simp) <;> omega) _)
    exact ((Below.refl _ _).alloc (Nat.le_refl _) _).trans (hb1.mono (by simp))

end Go.Proofs.YtngibnmcagogaaaDoor
