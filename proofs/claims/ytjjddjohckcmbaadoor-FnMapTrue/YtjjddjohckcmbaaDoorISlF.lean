/- Contracts: the program's fault of slots. -/
import Derived.Test.YtjjddjohckcmbaaDoorSlG
namespace Go.Proofs.YtjjddjohckcmbaaDoor
open Go.ChangeShapes Go.WideShapes Go.ChangeAt Go.RowKit
set_option linter.unusedVariables false
set_option linter.unusedSimpArgs false

set_option maxHeartbeats 4000000 in
theorem implSlotsFault_any (a : Option Addr) (c : Nat) (l : List Sl) (w : World) (h : HasS w a l) (hl : l.length ≤ 1048576) :
    Calls Tryd.prog 20 #[.slice a l.length c] w fun r w' => r = .returned (.int .i64 (slF l)) ∧ Below w.heap.size w w' := by
  have HF : Hid (slF l = if 12 < l.length then 2 else slGo (-1) l) := rfl
  generalize slF l = cc at *
  by_cases h12 : 12 < l.length
  · have h12' : (12 : Int) < (l.length : Int) := by omega
    go_enter Tryd.func20, Tryd.ntmps20
    go_wp2
    go_ret
    exact ⟨ret_int (by rw [HF.out, if_pos h12]), Below.refl _ _⟩
  · have h12' : ¬ (12 : Int) < (l.length : Int) := by omega
    have HF2 : Hid (cc = slGo (-1) l) := by show _ = _; rw [HF.out, if_neg h12]
    clear HF
    rcases h.cells with h0 | ⟨b, off, rfl, hb, hcell⟩
    · subst h0
      simp only [List.length_nil] at *
      go_enter Tryd.func20, Tryd.ntmps20
      go_wp2
      refine wp_loop_rounds 1 ?_
      rw [rounds_succ]
      go_wp2
      go_ret
      exact ⟨ret_int HF2.out.symm, Below.refl _ _⟩
    · go_enter Tryd.func20, Tryd.ntmps20
      go_wp2
      go_loopw [10] (fun i wr => ∃ k : Nat, k ≤ l.length ∧ cc = slGo (prevK l k) (l.drop k) ∧ i = .int .i64 k ∧ Below w.heap.size w wr) (fun i _ => l.length - (intOf i).toNat)
      case atStart => exact ⟨0, Nat.zero_le _, HF2.out, rfl, Below.refl _ _⟩
      case round =>
        obtain ⟨k, hk, hcc, rfl, hbel⟩ := hrel
        have HC : Hid (cc = slGo (prevK l k) (l.drop k)) := hcc
        clear hcc HF2
        by_cases hlt : k < l.length
        · have hlt' : (k : Int) < (l.length : Int) := by omega
          have hs := slGo_step hlt (prevK l k)
          have hp := prevK_succ hlt
          have ze := hbel.size
          have e1 : wr.cell? ⟨b, off + k * 2, none⟩ = some (.int .i64 l[k].1) := (hbel.cell (p := ⟨b, off + k * 2, none⟩) hb).trans (hcell k hlt).1
          have e2 : wr.cell? ⟨b, off + k * 2 + 1, none⟩ = some (.int .i64 l[k].2) := (hbel.cell (p := ⟨b, off + k * 2 + 1, none⟩) hb).trans (hcell k hlt).2
          have PV : Hid (0 < k → ∀ u : World, Below w.heap.size w u → u.cell? ⟨b, off + (k - 1) * 2, none⟩ = some (.int .i64 (prevK l k))) := by
            intro hk0 u hu
            obtain ⟨j, rfl⟩ : ∃ j, k = j + 1 := ⟨k - 1, by omega⟩
            have := (hcell j (by omega)).1
            rw [prevK_succ (by omega)]
            exact (hu.cell (p := ⟨b, off + j * 2, none⟩) hb).trans this
          have hneg : k = 0 → prevK l k = -1 := by rintro rfl; rfl
          have hge : slOk l[k] = true → 0 ≤ l[k].1 := fun e => (slOk_iff.1 e).1.1
          clear hcell h
          generalize prevK l k = pv at *
          generalize l[k] = s at *
          obtain ⟨x, y⟩ := s
          simp only at e1 e2 hge hp hs
          have HS : Hid (slGo pv (l.drop k) = if slOk (x, y) = true then (if x ≤ pv then 1 else slGo x (l.drop (k + 1))) else 3) := hs
          have HP : Hid (prevK l (k + 1) = x) := hp
          clear hs hp
          have IR : Hid (∀ u : World, Calls Tryd.prog 66 #[.agg #[.int .i64 x, .int .i64 y]] u fun r w' => r = .returned (.bool (slOk (x, y))) ∧ Below u.heap.size u w') := isInRange_any x y
          by_cases hok : slOk (x, y) = true
          · have HO : Hid (slOk (x, y) = true) := hok
            have hx0 := hge hok
            rw [hok] at IR
            clear hok hge
            go_wp2_with fail
            refine (IR.out _).mono ?_
            rintro r u1 ⟨rfl, hb1⟩
            have z1 := hb1.size
            simp at z1
            obtain ⟨q1, q2⟩ := bcell hb1
            have r0 := q1 wr.heap.size 0 (by simp)
            simp [go_sem] at r0
            have B1 : Below w.heap.size w u1 := (hbel.alloc ze _).trans (by
              refine Below.trans ?_ (hb1.mono (by simp; omega))
              repeat (first | exact Below.refl _ _ | refine Below.setCell ?_ (by (try simp) <;> omega) _))
            clear q1 q2 hb1 e1 e2
            by_cases hk0 : 0 < k
            · have hk0' : (0 : Int) < (k : Int) := by omega
              have e3 := PV.out hk0 u1 B1
              have el : ((k : Int) - 1) < (l.length : Int) := by omega
              have eg : (0 : Int) ≤ (k : Int) - 1 := by omega
              obtain ⟨j, rfl⟩ : ∃ j, k = j + 1 := ⟨k - 1, by omega⟩
              have ek : (((j + 1 : Nat) : Int) - 1) = (j : Int) := by omega
              simp only [Nat.add_sub_cancel] at e3
              by_cases hle : x ≤ pv
              · go_wp2
                go_quiet (fail)
                go_wp2
                go_ret
                exact ⟨ret_int (by rw [HC.out, HS.out, if_pos HO.out, if_pos hle]), below_drewN B1 _⟩
              · have hle' : pv < x := by omega
                go_wp2
                go_quiet (fail)
                go_wp2
                go_roundw
                case rel => exact ⟨j + 1 + 1, by omega, by rw [HC.out, HS.out, if_pos HO.out, if_neg (show ¬ x ≤ pv by omega), HP.out], by go_num, below_drewN B1 _⟩
                case measure => simp [intOf]; omega
            · obtain rfl : k = 0 := by omega
              have hp0 := hneg rfl
              clear hk0 hneg
              have hle : ¬ x ≤ pv := by omega
              clear PV
              go_wp2
              go_quiet (fail)
              go_wp2
              go_roundw
              case rel => exact ⟨0 + 1, by omega, by rw [HC.out, HS.out, if_pos HO.out, if_neg (show ¬ x ≤ pv by omega), HP.out], by go_num, below_drewN B1 _⟩
              case measure => simp [intOf]; omega
          · have hok' : slOk (x, y) = false := by simpa using hok
            have HN : Hid (slOk (x, y) = false) := hok'
            rw [hok'] at IR
            clear hok hok' hge
            go_wp2_with fail
            refine (IR.out _).mono ?_
            rintro r u1 ⟨rfl, hb1⟩
            have z1 := hb1.size
            simp at z1
            have B1 : Below w.heap.size w u1 := (hbel.alloc ze _).trans (by
              refine Below.trans ?_ (hb1.mono (by simp; omega))
              repeat (first | exact Below.refl _ _ | refine Below.setCell ?_ (by (try simp) <;> omega) _))
            clear hb1 e1 e2
            go_wp2
            go_ret
            exact ⟨ret_int (by rw [HC.out, HS.out, HN.out]; rfl), B1⟩
        · go_wp2
          go_ret
          refine ⟨ret_int ?_, hbel⟩
          rw [HC.out, List.drop_of_length_le (by omega)]
          rfl

end Go.Proofs.YtjjddjohckcmbaaDoor
