/- Contracts of the model of chapter 7: what a key has. -/
import Derived.Test.YtlcjaffoblldpabDoorSlF
namespace Go.Proofs.YtlcjaffoblldpabDoor
open Go.ChangeShapes Go.WideShapes Go.ChangeAt Go.RowKit
set_option linter.unusedVariables false
set_option linter.unusedSimpArgs false

theorem slFind_step {l : List Sl} {k : Nat} (h : k < l.length) (key : Int) : slFind (l.drop k) key = if l[k].1 = key then some l[k].2 else slFind (l.drop (k + 1)) key := by
  rw [List.drop_eq_getElem_cons h, slFind_cons]

set_option maxHeartbeats 1000000 in
theorem l7At_any (a : Option Addr) (c : Nat) (l : List Sl) (key : Int) (w : World) (h : HasS w a l) (hl : l.length ≤ 1048576) :
    Calls Tryd.prog 85 #[.slice a l.length c, .int .i64 key] w fun r w' => ((slFind l key = none ∧ r = .returned (.int .i64 (-1))) ∨ ∃ i : Nat, i < l.length ∧ r = .returned (.int .i64 i) ∧ slFind l key = some (l.getD i (0, 0)).2) ∧ w' = w := by
  have HF : Hid (slFind l key = slFind (l.drop 0) key) := by show _ = _; rw [List.drop_zero]
  generalize slFind l key = F at *
  rcases h.cells with h0 | ⟨b, off, rfl, hb, hcell⟩
  · subst h0
    simp only [List.length_nil] at *
    have HF2 : Hid (F = none) := HF.out
    clear HF
    go_enter Tryd.func85, Tryd.ntmps85
    go_wp2
    refine wp_loop_rounds 1 ?_
    rw [rounds_succ]
    go_wp2
    go_ret
    exact ⟨.inl ⟨HF2.out, rfl⟩, rfl⟩
  · go_enter Tryd.func85, Tryd.ntmps85
    go_wp2
    go_loop [5] (fun i => ∃ k : Nat, k ≤ l.length ∧ i = .int .i64 k ∧ F = slFind (l.drop k) key) (fun i => l.length - (intOf i).toNat)
    case atStart => exact ⟨0, Nat.zero_le _, rfl, HF.out⟩
    case round =>
      obtain ⟨k, hk, rfl, hf⟩ := hrel
      have HC : Hid (F = slFind (l.drop k) key) := hf
      clear hf HF
      by_cases hlt : k < l.length
      · have hlt' : (k : Int) < (l.length : Int) := by omega
        have HS : Hid (_) := slFind_step hlt key
        have e1 := (hcell k hlt).1
        by_cases he : l[k].1 = key
        · have he' : (l[k].1 == key) = true := by simpa using he
          have HE : Hid (l[k].1 = key) := he
          have HG : Hid (l[k]?.getD (0, 0) = l[k]) := by show _ = _; rw [List.getElem?_eq_getElem hlt]; rfl
          clear he
          go_wp2
          go_ret
          exact ⟨.inr ⟨k, hlt, rfl, by rw [HC.out, HS.out, if_pos HE.out, HG.out]⟩, rfl⟩
        · have he' : (l[k].1 == key) = false := by simpa using he
          have HE : Hid (¬ l[k].1 = key) := he
          clear he
          go_wp2
          go_round
          case rel => exact ⟨k + 1, by omega, by go_num, by rw [HC.out, HS.out, if_neg HE.out]⟩
          case measure => simp [intOf]; omega
      · go_wp2
        go_ret
        exact ⟨.inl ⟨by rw [HC.out, List.drop_of_length_le (by omega)]; rfl, rfl⟩, rfl⟩

/-- The code and the value of a search. -/
def fdC (l : List Sl) (k : Int) : Int := if slF l = 0 then (if (slFind l k).isSome = true then 0 else 4) else slF l
def fdV (l : List Sl) (k : Int) : Int := if slF l = 0 then (slFind l k).getD 0 else 0

end Go.Proofs.YtlcjaffoblldpabDoor
