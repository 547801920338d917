/- Contracts of the model's chapter 3: events held against each other. -/
import Derived.Test.YtbacpnopklkadaaEvt
import Derived.Test.YtbacpnopklkadaaClash
namespace Go.Proofs.Ytbacpnopklkadaa
open Go.ChangeShapes Go.WideShapes Go.ChangeAt Go.RowKit
set_option linter.unusedVariables false
set_option linter.unusedSimpArgs false

/-- Whether two events are the same. -/
def sameE (s v k x s' v' k' x' : Int) (zs ys : List Int) : Bool := decide (s = s') && (decide (v = v') && (decide (k = k') && (decide (x = x') && decide (zs = ys))))

set_option maxHeartbeats 8000000 in
theorem l3Same_any (b b' : Nat) (s v k x s' v' k' x' : Int) (a a' : Option Addr) (c c' : Nat) (zs ys : List Int) (w : World) (h : EvAt w b s v k x a zs.length c) (h' : EvAt w b' s' v' k' x' a' ys.length c') (hz : Has w .u8 a zs.length zs) (hy : Has w .u8 a' ys.length ys) :
    Calls Try.prog 39 #[.pointer (some ⟨b, 0, none⟩), .pointer (some ⟨b', 0, none⟩)] w fun r w' => r = .returned (.bool (sameE s v k x s' v' k' x' zs ys)) ∧ Below w.heap.size w w' := by
  have hnew : Nonempty (KeptW w) := ⟨⟨w, Below.refl _ _⟩⟩
  have t1 : ∀ d : KeptW w, (convert 22 9 (.slice a zs.length c)).run Try.prog d.wd = .ok (.string (strOfNums zs)) d.wd := fun d => (hz.below d.hb (Nat.le_refl _)).str c
  have t2 : ∀ d : KeptW w, (convert 22 9 (.slice a' ys.length c')).run Try.prog d.wd = .ok (.string (strOfNums ys)) d.wd := fun d => (hy.below d.hb (Nat.le_refl _)).str c'
  have hst := str_beq hz.2.1 hy.2.1
  have k0 := KeptW.cell h.c0 h.lt
  have k1 := KeptW.cell h.c1 h.lt
  have k2 := KeptW.cell h.c2 h.lt
  have k3 := KeptW.cell h.c3 h.lt
  have k4 := KeptW.cell h.c4 h.lt
  have l0 := KeptW.cell h'.c0 h'.lt
  have l1 := KeptW.cell h'.c1 h'.lt
  have l2 := KeptW.cell h'.c2 h'.lt
  have l3 := KeptW.cell h'.c3 h'.lt
  have l4 := KeptW.cell h'.c4 h'.lt
  clear hz hy h h'
  unfold sameE
  by_cases es : s = s'
  · have fs : (s == s') = true := by simpa using es
    have gs : decide (s = s') = true := by simpa using es
    rw [gs]
    clear es gs
    by_cases ev : v = v'
    · have fv : (v == v') = true := by simpa using ev
      have gv : decide (v = v') = true := by simpa using ev
      rw [gv]
      clear ev gv
      by_cases ek : k = k'
      · have fk : (k == k') = true := by simpa using ek
        have gk : decide (k = k') = true := by simpa using ek
        rw [gk]
        clear ek gk
        by_cases ex : x = x'
        · have fx : (x == x') = true := by simpa using ex
          have gx : decide (x = x') = true := by simpa using ex
          rw [gx]
          clear ex gx
          by_cases ez : zs = ys
          · have gz : decide (zs = ys) = true := by simpa using ez
            rw [gz] at hst ⊢
            clear ez gz
            go_enter Try.func39, Try.ntmps39
            go_wp2_with fail
            refine wp_region_kept (by kernel_rfl) (by kernel_rfl) ?_
            iterate 56 (go_big_quiet_step (fail))
            refine wpQuiet_nil ?_
            rintro _ ⟨d, rfl⟩
            go_wp2
            go_ret
            exact ⟨rfl, d.hb⟩
          · have gz : decide (zs = ys) = false := by simpa using ez
            rw [gz] at hst ⊢
            clear ez gz
            go_enter Try.func39, Try.ntmps39
            go_wp2_with fail
            refine wp_region_kept (by kernel_rfl) (by kernel_rfl) ?_
            iterate 56 (go_big_quiet_step (fail))
            refine wpQuiet_nil ?_
            rintro _ ⟨d, rfl⟩
            go_wp2
            go_ret
            exact ⟨rfl, d.hb⟩
        · have fx : (x == x') = false := by simpa using ex
          have gx : decide (x = x') = false := by simpa using ex
          rw [gx]
          clear ex gx hst
          go_enter Try.func39, Try.ntmps39
          go_wp2_with fail
          refine wp_region_kept (by kernel_rfl) (by kernel_rfl) ?_
          iterate 56 (go_big_quiet_step (fail))
          refine wpQuiet_nil ?_
          rintro _ ⟨d, rfl⟩
          go_wp2
          go_ret
          exact ⟨rfl, d.hb⟩
      · have fk : (k == k') = false := by simpa using ek
        have gk : decide (k = k') = false := by simpa using ek
        rw [gk]
        clear ek gk hst
        go_enter Try.func39, Try.ntmps39
        go_wp2_with fail
        refine wp_region_kept (by kernel_rfl) (by kernel_rfl) ?_
        iterate 56 (go_big_quiet_step (fail))
        refine wpQuiet_nil ?_
        rintro _ ⟨d, rfl⟩
        go_wp2
        go_ret
        exact ⟨rfl, d.hb⟩
    · have fv : (v == v') = false := by simpa using ev
      have gv : decide (v = v') = false := by simpa using ev
      rw [gv]
      clear ev gv hst
      go_enter Try.func39, Try.ntmps39
      go_wp2_with fail
      refine wp_region_kept (by kernel_rfl) (by kernel_rfl) ?_
      iterate 56 (go_big_quiet_step (fail))
      refine wpQuiet_nil ?_
      rintro _ ⟨d, rfl⟩
      go_wp2
      go_ret
      exact ⟨rfl, d.hb⟩
  · have fs : (s == s') = false := by simpa using es
    have gs : decide (s = s') = false := by simpa using es
    rw [gs]
    clear es gs hst
    go_enter Try.func39, Try.ntmps39
    go_wp2_with fail
    refine wp_region_kept (by kernel_rfl) (by kernel_rfl) ?_
    iterate 56 (go_big_quiet_step (fail))
    refine wpQuiet_nil ?_
    rintro _ ⟨d, rfl⟩
    go_wp2
    go_ret
    exact ⟨rfl, d.hb⟩

theorem specSameEvents_any (s v k x s' v' k' x' : Int) (a a' : Option Addr) (c c' : Nat) (zs ys : List Int) (w : World) (hz : Has w .u8 a zs.length zs) (hy : Has w .u8 a' ys.length ys) :
    Calls Try.prog 26 #[.agg #[.int .i64 s, .int .i64 v, .int .i64 k, .int .i64 x, .slice a zs.length c], .agg #[.int .i64 s', .int .i64 v', .int .i64 k', .int .i64 x', .slice a' ys.length c']] w fun r w' => r = .returned (.bool (sameE s v k x s' v' k' x' zs ys)) ∧ Below w.heap.size w w' := by
  go_enter Try.func26, Try.ntmps26
  go_wp2_with (go_at_call 39; refine (l3Same_any _ _ s v k x s' v' k' x' a a' c c' zs ys _ ((EvAt.new w s v k x a zs.length c 27).below ((Below.refl _ _).alloc (Nat.le_refl _) _)) (by simpa using EvAt.new (w.alloc (.cells #[.int .i64 s, .int .i64 v, .int .i64 k, .int .i64 x, .slice a zs.length c] 27)) s' v' k' x' a' ys.length c' 27) ((hz.alloc _).alloc _) ((hy.alloc _).alloc _)).mono ?_; rintro r u ⟨rfl, hb⟩)
  go_ret
  exact ⟨rfl, (((Below.refl _ _).alloc (Nat.le_refl _) _).alloc (by simp) _).trans (hb.mono (by simp; omega))⟩

end Go.Proofs.Ytbacpnopklkadaa
