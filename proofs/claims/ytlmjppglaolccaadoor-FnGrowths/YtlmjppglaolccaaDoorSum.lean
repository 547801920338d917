/- Contracts of the model of chapter 2: sums of pieces. -/
import Derived.Test.YtlmjppglaolccaaDoorBytes
import Derived.Test.YtlmjppglaolccaaDoorKeep
namespace Go.Proofs.YtlmjppglaolccaaDoor
open Go.ChangeShapes Go.WideShapes Go.ChangeAt Go.RowKit
set_option linter.unusedVariables false
set_option linter.unusedSimpArgs false

def sumStep (n b : Int) : Int := (n * 137 + b + 1) % 65521
def sumL (zs : List Int) : Int := zs.foldl sumStep 11
theorem sum_bd (zs : List Int) : 0 ≤ sumL zs ∧ sumL zs ≤ 65520 := by
  unfold sumL
  have : ∀ (l : List Int) (n : Int), 0 ≤ n ∧ n ≤ 65520 → 0 ≤ l.foldl sumStep n ∧ l.foldl sumStep n ≤ 65520 := by
    intro l
    induction l with
    | nil => intro n h; exact h
    | cons x l ih => intro n h; exact ih _ (by unfold sumStep; omega)
  exact this zs 11 (by omega)
theorem sum_succ (zs : List Int) (k : Nat) (h : k < zs.length) : sumL (zs.take (k + 1)) = (sumL (zs.take k) * 137 + zs[k] + 1) % 65521 := by
  unfold sumL; rw [List.take_succ_eq_append_getElem h, List.foldl_append]; rfl

theorem l2Sum_any (a : Option Addr) (cap : Nat) (zs : List Int) (w : World) (h : Has w .u8 a zs.length zs) (hl : zs.length ≤ 2097152) :
    Calls Tryd.prog 69 #[.slice a zs.length cap] w fun r w' => r = .returned (.int .i64 (sumL zs)) ∧ w' = w := by
  obtain ⟨_, hwf, hc⟩ := h
  rcases hc with h0 | ⟨b, off, rfl, hb, hcell⟩
  · obtain rfl : zs = [] := List.eq_nil_of_length_eq_zero h0
    clear h0
    simp only [List.length_nil]
    go_enter Tryd.func69, Tryd.ntmps69
    go_wp2
    refine wp_loop_rounds 1 ?_
    rw [rounds_succ]
    go_wp2
    go_ret
    exact ⟨rfl, rfl⟩
  · have hall : sumL (zs.take zs.length) = sumL zs := by rw [List.take_length]
    have HA : Hid (_) := hall
    clear hall
    go_enter Tryd.func69, Tryd.ntmps69
    go_wp2
    go_loop [3, 4] (fun n i => ∃ k : Nat, k ≤ zs.length ∧ i = .int .i64 k ∧ n = .int .i64 (sumL (zs.take k))) (fun _ i => zs.length - (intOf i).toNat)
    case atStart => exact ⟨0, Nat.zero_le _, rfl, rfl⟩
    case round =>
      obtain ⟨k, hk, rfl, rfl⟩ := hrel
      have hs := sum_bd (zs.take k)
      by_cases hlt : k < zs.length
      · have hx : w.cell? ⟨b, off + k, none⟩ = some (.int .u8 zs[k]) := by rw [hcell k hlt]; simp [List.getD, hlt]
        have hxb := bounds_u8 (hwf zs[k] (List.getElem_mem hlt))
        have HS : Hid (_) := sum_succ zs k hlt
        have hlt' : (k : Int) < (zs.length : Int) := by omega
        generalize zs[k] = x at hx hxb HS
        generalize sumL (zs.take k) = n at hs HS
        clear hcell hwf
        go_wp2
        go_round
        case rel => exact ⟨k + 1, by omega, by go_num, by rw [HS.out]⟩
        case measure => simp [intOf]; omega
      · have hkk : k = zs.length := by omega
        have HK : Hid (k = zs.length) := hkk
        clear hkk
        go_wp2
        go_ret
        exact ⟨ret_int (by rw [HK.out, HA.out]), rfl⟩

theorem Has.news {w : World} {k : IntKind} {ad : Addr} {zs : List Int} (h : Has w k (some ad) zs.length zs) : ∀ (j : Nat) (u : Value), (zs.map (.int k))[j]? = some u → w.cell? (ad.add j) = some u := by
  intro j u hu
  have hj : j < zs.length := by
    rcases Nat.lt_or_ge j zs.length with c | c
    · exact c
    · rw [List.getElem?_eq_none (by simpa using c)] at hu; cases hu
  rcases h.2.2 with c | ⟨b, off, hb, _, hc⟩
  · omega
  · have e := hc j hj
    simp at hb
    subst hb
    have hu' : Value.int k zs[j] = u := by simpa [hj] using hu
    rw [← hu']
    by_cases h0 : j = 0
    · subst h0; simpa [Addr.add, List.getD, hj] using e
    · simpa [Addr.add, List.getD, hj, h0] using e

end Go.Proofs.YtlmjppglaolccaaDoor
