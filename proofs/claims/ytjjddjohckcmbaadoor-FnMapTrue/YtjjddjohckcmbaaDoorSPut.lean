/- Contracts of the model of chapter 7: a slot that is put. -/
import Derived.Test.YtjjddjohckcmbaaDoorSlG
import Derived.Test.YtjjddjohckcmbaaDoorPiece
namespace Go.Proofs.YtjjddjohckcmbaaDoor
open Go.ChangeShapes Go.WideShapes Go.ChangeAt Go.RowKit
set_option maxRecDepth 100000
set_option linter.unusedVariables false
set_option linter.unusedSimpArgs false

theorem infoSp : (Tryd.prog.info? 50).map (fun i => (i.zero, i.size, i.bytes)) = some (some (.agg #[.int .i64 0, .int .i64 0]), 2, 16) := by kernel_rfl
/-- What is laid ahead of place k. -/
def putTo (s : Sl) (l : List Sl) (k : Nat) (d : Bool) : List Sl → Prop := fun o => slPut l s = o ++ putGo s (l.drop k) d
theorem putGo_step {s : Sl} {l : List Sl} {k : Nat} (h : k < l.length) (d : Bool) : putGo s (l.drop k) d = (if d = false ∧ s.1 ≤ l[k].1 then [s] else []) ++ ((if l[k].1 = s.1 then [] else [l[k]]) ++ putGo s (l.drop (k + 1)) (d || decide (s.1 ≤ l[k].1))) := by
  rw [List.drop_eq_getElem_cons h, putGo]

theorem own2_drew {w : World} {base e q n : Nat} {v : Value} {xs : List Value} {m : Nat} (h : w.ownsRow base e q v n xs) : (w.drewN m).ownsRow base e q v n xs := own2_below h (below_drewN (Below.refl _ _) _)
theorem app_below {E u w3 : World} {v : Value} {o : Obj} {n e q : Nat} {xs : List Value} (hO : u.ownsRow E.heap.size e q v n xs) (hb : Below E.heap.size E u) (hg : (u.alloc o).grownBy w3 v.ownBlock) : Below E.heap.size E w3 :=
  (hb.alloc hb.size o).trans ((Below.refl _ _).grown hg (by simp; have := hb.size; omega) (fun k hk => (hO.lt k hk).1))
theorem app_own {w3 : World} {base : Nat} {v : Value} {o : List Sl} {a b : Int} (h : w3.ownsRow base 50 2 v (o.length + 1) ((flat o).map (.int .i64) ++ [.int .i64 a, .int .i64 b])) : OwnS w3 base v (o ++ [(a, b)]) := by
  show World.ownsRow w3 _ _ 2 v (o ++ [(a, b)]).length _
  simpa [flat_app, flat] using h

set_option maxHeartbeats 8000000 in
theorem l7Put_any (a : Option Addr) (c : Nat) (l : List Sl) (x y : Int) (w : World) (h : HasS w a l) (hl : l.length ≤ 1000) :
    Calls Tryd.prog 73 #[.slice a l.length c, .agg #[.int .i64 x, .int .i64 y]] w fun r w' => ∃ a' c', r = .returned (.slice a' (slPut l (x, y)).length c') ∧ OwnS w' w.heap.size (.slice a' (slPut l (x, y)).length c') (slPut l (x, y)) ∧ Below w.heap.size w w' := by
  obtain ⟨i0, hi, hz0, hz1, hz2⟩ := info_parts infoSp
  have HP : Hid (slPut l (x, y) = putGo (x, y) (l.drop 0) false) := by show _ = _; rw [List.drop_zero]; rfl
  obtain ⟨E, hE⟩ : ∃ E, E = (w.alloc (.cells #[.int .i64 x, .int .i64 y] 50)) := ⟨_, rfl⟩
  have EW : Below w.heap.size w E := by rw [hE]; exact (Below.refl _ _).alloc (Nat.le_refl _) _
  have zE : E.heap.size = w.heap.size + 1 := by rw [hE]; simp
  have CE : Hid (∀ u : World, Below E.heap.size E u → u.cell? ⟨w.heap.size, 0, none⟩ = some (.int .i64 x) ∧ u.cell? ⟨w.heap.size, 1, none⟩ = some (.int .i64 y)) := fun u hu => ⟨(hu.cell (p := ⟨w.heap.size, 0, none⟩) (by show w.heap.size < _; omega)).trans (by rw [hE]; simp [go_sem]), (hu.cell (p := ⟨w.heap.size, 1, none⟩) (by show w.heap.size < _; omega)).trans (by rw [hE]; simp [go_sem])⟩
  have hown0 : (E.alloc (.cells #[] 50)).ownsRow E.heap.size 50 2 (.slice (some ⟨E.heap.size, 0, none⟩) 0 0) 0 [] := World.ownsRow_lit E #[] 0 (Nat.le_refl _) (Nat.zero_le _) rfl
  have OS0 : OwnS (E.alloc (.cells #[] 50)) E.heap.size (.slice (some ⟨E.heap.size, 0, none⟩) 0 0) [] := hown0
  have B0 : Below E.heap.size E (E.alloc (.cells #[] 50)) := (Below.refl _ _).alloc (Nat.le_refl _) _
  have HR : Hid (∀ (k : Nat) (d : Bool), k < l.length → putGo (x, y) (l.drop k) d = (if d = false ∧ x ≤ (l.getD k (0, 0)).1 then [(x, y)] else []) ++ ((if (l.getD k (0, 0)).1 = x then [] else [l.getD k (0, 0)]) ++ putGo (x, y) (l.drop (k + 1)) (d || decide (x ≤ (l.getD k (0, 0)).1)))) := by
    intro k d hk
    have e : l.getD k (0, 0) = l[k] := by rw [List.getD_eq_getElem?_getD, List.getElem?_eq_getElem hk]; rfl
    rw [e]
    exact putGo_step hk d
  have LC : Hid (l = [] ∨ ∃ b off, a = some ⟨b, off, none⟩ ∧ ∀ u : World, Below E.heap.size E u → ∀ k : Nat, k < l.length → u.cell? ⟨b, off + k * 2, none⟩ = some (.int .i64 (l.getD k (0, 0)).1) ∧ u.cell? ⟨b, off + k * 2 + 1, none⟩ = some (.int .i64 (l.getD k (0, 0)).2)) := by
    rcases h.cells with h0 | ⟨b, off, ha, hb, hc⟩
    · exact .inl h0
    · refine .inr ⟨b, off, ha, fun u hu k hk => ?_⟩
      have e : l.getD k (0, 0) = l[k] := by rw [List.getD_eq_getElem?_getD, List.getElem?_eq_getElem hk]; rfl
      rw [e]
      exact ⟨(hu.cell (p := ⟨b, off + k * 2, none⟩) (by show b < _; omega)).trans ((EW.cell (p := ⟨b, off + k * 2, none⟩) hb).trans (hc k hk).1), (hu.cell (p := ⟨b, off + k * 2 + 1, none⟩) (by show b < _; omega)).trans ((EW.cell (p := ⟨b, off + k * 2 + 1, none⟩) hb).trans (hc k hk).2)⟩
  generalize slPut l (x, y) = PP at *
  have FIN : Hid (∀ (u : World) (a' : Option Addr) (c' : Nat) (o : List Sl), OwnS u E.heap.size (.slice a' o.length c') o → Below E.heap.size E u → OwnS u w.heap.size (.slice a' o.length c') o ∧ Below w.heap.size w u) := fun u a' c' o ho hb => ⟨own2_mono ho (by omega), EW.trans (hb.mono (by omega))⟩
  have OS1 : OwnS (E.alloc (.cells #[] 50)) E.heap.size (.slice (some ⟨w.heap.size + 1, 0, none⟩) 0 0) [] := by rw [← zE]; exact OS0
  clear h EW hown0 zE OS0
  go_enter Tryd.func73, Tryd.ntmps73
  go_wp2_with fail
  simp only [← hE]
  clear hE
  go_loopw [5, 6, 7] (fun v dd i wr => ∃ (k : Nat) (d : Bool) (o : List Sl), k ≤ l.length ∧ i = .int .i64 k ∧ dd = .bool d ∧ OwnS wr E.heap.size v o ∧ o.length ≤ 2 * k ∧ PP = o ++ putGo (x, y) (l.drop k) d ∧ Below E.heap.size E wr) (fun _ _ i _ => l.length - (intOf i).toNat)
  case atStart => exact ⟨0, false, [], Nat.zero_le _, rfl, rfl, OS1, Nat.zero_le _, by rw [List.nil_append]; exact HP.out, B0⟩
  case round =>
    clear OS1 B0 HP
    obtain ⟨k, d, o, hk, rfl, rfl, hO, hol, hPP, hbel⟩ := hrel
    have HPP : Hid (PP = o ++ putGo (x, y) (l.drop k) d) := hPP
    obtain ⟨va, vc, rfl, _, _⟩ := own2_shape hO
    have zr := hbel.size
    clear hPP
    by_cases hlt : k < l.length
    · have hlt' : (k : Int) < (l.length : Int) := by omega
      rcases LC.out with h0 | ⟨b, off, rfl, hlc⟩
      · subst h0; simp at hlt
      have FA : Hid (∀ u : World, Below E.heap.size E u → (u.cell? ⟨b, off + k * 2, none⟩ = some (.int .i64 (l.getD k (0, 0)).1) ∧ u.cell? ⟨b, off + k * 2 + 1, none⟩ = some (.int .i64 (l.getD k (0, 0)).2)) ∧ u.cell? ⟨w.heap.size, 0, none⟩ = some (.int .i64 x) ∧ u.cell? ⟨w.heap.size, 1, none⟩ = some (.int .i64 y)) := fun u hu => ⟨hlc u hu k hlt, CE.out u hu⟩
      have HS := HR.out k d hlt
      rw [HS] at HPP
      clear HS hlc LC CE HR
      generalize l.getD k (0, 0) = z at *
      obtain ⟨p, q⟩ := z
      simp only at FA HPP
      obtain ⟨⟨e1, e2⟩, e3, e4⟩ := FA.out wr hbel
      by_cases hge : x ≤ p
      · have hlt2 : ¬ p < x := by omega
        by_cases heq : p = x
        · cases d with
          | false =>
            have HP2 : Hid (PP = (o ++ [(x, y)]) ++ putGo (x, y) (l.drop (k + 1)) true) := by show _ = _; have := HPP.out; simpa [hge, heq] using this
            have hne : (p != x) = false := by simpa using heq
            clear HPP
            clear heq
            go_wp2
            go_quiet (fail)
            go_wp2_with (at_builtin; refine wpList_append_own _ rfl _ _ 24 rfl E.heap.size 50 i0 (.agg #[.int .i64 0, .int .i64 0]) 2 16 Tryd.underlying24 hi hz0 hz1 hz2 rfl (by decide) _ _ _ rfl ((own2_drew hO).alloc _) ⟨wr.heap.size, 0, none⟩ 1 1 [.int .i64 x, .int .i64 y] rfl rfl (two_new _ _ _ _) (by intro u hu; simp at hu; rcases hu with rfl | rfl <;> rfl) (by unfold maxLen; omega) (by omega) (by simp; omega) ?_; intro v3 w3 hown3 hgrow3 _h3)
            have B3 : Below E.heap.size E w3 := app_below (own2_drew hO) (below_drewN hbel _) hgrow3
            have O3 : OwnS w3 E.heap.size v3 (o ++ [(x, y)]) := app_own hown3
            have z3 := B3.size
            clear hown3 hgrow3 _h3
            obtain ⟨va3, vc3, rfl, _, _⟩ := own2_shape O3
            obtain ⟨⟨g1, g2⟩, g3, g4⟩ := FA.out w3 B3
            have hl3 : (o ++ [(x, y)]).length = o.length + 1 := by simp
            generalize hg3 : o ++ [(x, y)] = o3 at *
            clear hg3
            go_wp2
            go_quiet (fail)
            go_wp2
            go_roundw
            case rel => exact ⟨k + 1, true, _, by omega, by go_num, rfl, (own2_drew O3), by omega, HP2.out, (below_drewN B3 _)⟩
            case measure => simp [intOf]; omega
          | true =>
            have HP2 : Hid (PP = o ++ putGo (x, y) (l.drop (k + 1)) true) := by show _ = _; have := HPP.out; simpa [hge, heq] using this
            have hne : (p != x) = false := by simpa using heq
            clear HPP
            clear heq
            go_wp2
            go_quiet (fail)
            go_wp2
            go_quiet (fail)
            go_wp2
            go_roundw
            case rel => exact ⟨k + 1, true, _, by omega, by go_num, rfl, (own2_drew hO), by omega, HP2.out, (below_drewN hbel _)⟩
            case measure => simp [intOf]; omega
        · have heq0 : ¬ p = x := heq
          cases d with
          | false =>
            have HP2 : Hid (PP = ((o ++ [(x, y)]) ++ [(p, q)]) ++ putGo (x, y) (l.drop (k + 1)) true) := by show _ = _; have := HPP.out; simpa [hge, heq0] using this
            have hne : (p != x) = true := by simpa using heq0
            clear HPP
            go_wp2
            go_quiet (fail)
            go_wp2_with (at_builtin; refine wpList_append_own _ rfl _ _ 24 rfl E.heap.size 50 i0 (.agg #[.int .i64 0, .int .i64 0]) 2 16 Tryd.underlying24 hi hz0 hz1 hz2 rfl (by decide) _ _ _ rfl ((own2_drew hO).alloc _) ⟨wr.heap.size, 0, none⟩ 1 1 [.int .i64 x, .int .i64 y] rfl rfl (two_new _ _ _ _) (by intro u hu; simp at hu; rcases hu with rfl | rfl <;> rfl) (by unfold maxLen; omega) (by omega) (by simp; omega) ?_; intro v3 w3 hown3 hgrow3 _h3)
            have B3 : Below E.heap.size E w3 := app_below (own2_drew hO) (below_drewN hbel _) hgrow3
            have O3 : OwnS w3 E.heap.size v3 (o ++ [(x, y)]) := app_own hown3
            have z3 := B3.size
            clear hown3 hgrow3 _h3
            obtain ⟨va3, vc3, rfl, _, _⟩ := own2_shape O3
            obtain ⟨⟨g1, g2⟩, g3, g4⟩ := FA.out w3 B3
            have hl3 : (o ++ [(x, y)]).length = o.length + 1 := by simp
            generalize hg3 : o ++ [(x, y)] = o3 at *
            clear hg3
            go_wp2
            go_quiet (fail)
            go_wp2_with (at_builtin; refine wpList_append_own _ rfl _ _ 24 rfl E.heap.size 50 i0 (.agg #[.int .i64 0, .int .i64 0]) 2 16 Tryd.underlying24 hi hz0 hz1 hz2 rfl (by decide) _ _ _ rfl ((own2_drew O3).alloc _) ⟨w3.heap.size, 0, none⟩ 1 1 [.int .i64 p, .int .i64 q] rfl rfl (two_new _ _ _ _) (by intro u hu; simp at hu; rcases hu with rfl | rfl <;> rfl) (by unfold maxLen; omega) (by omega) (by simp; omega) ?_; intro v5 w5 hown5 hgrow5 _h5)
            have B5 : Below E.heap.size E w5 := app_below (own2_drew O3) (below_drewN B3 _) hgrow5
            have O5 : OwnS w5 E.heap.size v5 (o3 ++ [(p, q)]) := app_own hown5
            have z5 := B5.size
            clear hown5 hgrow5 _h5
            go_wp2
            go_roundw
            case rel => exact ⟨k + 1, true, _, by omega, by go_num, rfl, O5, by simp; omega, HP2.out, B5⟩
            case measure => simp [intOf]; omega
          | true =>
            have HP2 : Hid (PP = (o ++ [(p, q)]) ++ putGo (x, y) (l.drop (k + 1)) true) := by show _ = _; have := HPP.out; simpa [hge, heq0] using this
            have hne : (p != x) = true := by simpa using heq0
            clear HPP
            go_wp2
            go_quiet (fail)
            go_wp2
            go_quiet (fail)
            go_wp2_with (at_builtin; refine wpList_append_own _ rfl _ _ 24 rfl E.heap.size 50 i0 (.agg #[.int .i64 0, .int .i64 0]) 2 16 Tryd.underlying24 hi hz0 hz1 hz2 rfl (by decide) _ _ _ rfl ((own2_drew hO).alloc _) ⟨wr.heap.size, 0, none⟩ 1 1 [.int .i64 p, .int .i64 q] rfl rfl (two_new _ _ _ _) (by intro u hu; simp at hu; rcases hu with rfl | rfl <;> rfl) (by unfold maxLen; omega) (by omega) (by simp; omega) ?_; intro v5 w5 hown5 hgrow5 _h5)
            have B5 : Below E.heap.size E w5 := app_below (own2_drew hO) (below_drewN hbel _) hgrow5
            have O5 : OwnS w5 E.heap.size v5 (o ++ [(p, q)]) := app_own hown5
            have z5 := B5.size
            clear hown5 hgrow5 _h5
            go_wp2
            go_roundw
            case rel => exact ⟨k + 1, true, _, by omega, by go_num, rfl, O5, by simp; omega, HP2.out, B5⟩
            case measure => simp [intOf]; omega
      · have hlt2 : p < x := by omega
        have hge0 : ¬ x ≤ p := hge
        have heq0 : ¬ p = x := by omega
        cases d with
        | false =>
          have HP2 : Hid (PP = (o ++ [(p, q)]) ++ putGo (x, y) (l.drop (k + 1)) false) := by show _ = _; have := HPP.out; simpa [hge0, heq0] using this
          have hne : (p != x) = true := by simpa using heq0
          clear HPP
          go_wp2
          go_quiet (fail)
          go_wp2
          go_quiet (fail)
          go_wp2_with (at_builtin; refine wpList_append_own _ rfl _ _ 24 rfl E.heap.size 50 i0 (.agg #[.int .i64 0, .int .i64 0]) 2 16 Tryd.underlying24 hi hz0 hz1 hz2 rfl (by decide) _ _ _ rfl ((own2_drew hO).alloc _) ⟨wr.heap.size, 0, none⟩ 1 1 [.int .i64 p, .int .i64 q] rfl rfl (two_new _ _ _ _) (by intro u hu; simp at hu; rcases hu with rfl | rfl <;> rfl) (by unfold maxLen; omega) (by omega) (by simp; omega) ?_; intro v5 w5 hown5 hgrow5 _h5)
          have B5 : Below E.heap.size E w5 := app_below (own2_drew hO) (below_drewN hbel _) hgrow5
          have O5 : OwnS w5 E.heap.size v5 (o ++ [(p, q)]) := app_own hown5
          have z5 := B5.size
          clear hown5 hgrow5 _h5
          go_wp2
          go_roundw
          case rel => exact ⟨k + 1, false, _, by omega, by go_num, rfl, O5, by simp; omega, HP2.out, B5⟩
          case measure => simp [intOf]; omega
        | true =>
          have HP2 : Hid (PP = (o ++ [(p, q)]) ++ putGo (x, y) (l.drop (k + 1)) true) := by show _ = _; have := HPP.out; simpa [hge0, heq0] using this
          have hne : (p != x) = true := by simpa using heq0
          clear HPP
          go_wp2
          go_quiet (fail)
          go_wp2
          go_quiet (fail)
          go_wp2_with (at_builtin; refine wpList_append_own _ rfl _ _ 24 rfl E.heap.size 50 i0 (.agg #[.int .i64 0, .int .i64 0]) 2 16 Tryd.underlying24 hi hz0 hz1 hz2 rfl (by decide) _ _ _ rfl ((own2_drew hO).alloc _) ⟨wr.heap.size, 0, none⟩ 1 1 [.int .i64 p, .int .i64 q] rfl rfl (two_new _ _ _ _) (by intro u hu; simp at hu; rcases hu with rfl | rfl <;> rfl) (by unfold maxLen; omega) (by omega) (by simp; omega) ?_; intro v5 w5 hown5 hgrow5 _h5)
          have B5 : Below E.heap.size E w5 := app_below (own2_drew hO) (below_drewN hbel _) hgrow5
          have O5 : OwnS w5 E.heap.size v5 (o ++ [(p, q)]) := app_own hown5
          have z5 := B5.size
          clear hown5 hgrow5 _h5
          go_wp2
          go_roundw
          case rel => exact ⟨k + 1, true, _, by omega, by go_num, rfl, O5, by simp; omega, HP2.out, B5⟩
          case measure => simp [intOf]; omega
    · have hkk : k = l.length := by omega
      have HK : Hid (PP = o ++ (if d = true then [] else [(x, y)])) := by
        have := HPP.out
        rw [List.drop_of_length_le (by omega)] at this
        exact this
      obtain ⟨e3, e4⟩ := CE.out wr hbel
      clear HPP LC CE HR hkk
      cases d with
      | true =>
        have HK2 : Hid (PP = o) := by show _ = _; have := HK.out; simpa using this
        clear HK
        go_wp2
        go_ret
        obtain ⟨f1, f2⟩ := FIN.out _ _ _ _ hO hbel
        exact ⟨va, vc, by rw [HK2.out]; rfl, by rw [HK2.out]; exact f1, f2⟩
      | false =>
        have HK2 : Hid (PP = o ++ [(x, y)]) := by show _ = _; have := HK.out; simpa using this
        clear HK
        go_wp2_with (at_builtin; refine wpList_append_own _ rfl _ _ 24 rfl E.heap.size 50 i0 (.agg #[.int .i64 0, .int .i64 0]) 2 16 Tryd.underlying24 hi hz0 hz1 hz2 rfl (by decide) _ _ _ rfl (hO.alloc _) ⟨wr.heap.size, 0, none⟩ 1 1 [.int .i64 x, .int .i64 y] rfl rfl (two_new _ _ _ _) (by intro u hu; simp at hu; rcases hu with rfl | rfl <;> rfl) (by unfold maxLen; omega) (by omega) (by simp; omega) ?_; intro v3 w3 hown3 hgrow3 _h3)
        have B3 : Below E.heap.size E w3 := app_below hO hbel hgrow3
        have O3 : OwnS w3 E.heap.size v3 (o ++ [(x, y)]) := app_own hown3
        obtain ⟨va3, vc3, rfl, _, _⟩ := own2_shape O3
        clear hown3 hgrow3 _h3
        go_ret
        obtain ⟨f1, f2⟩ := FIN.out _ _ _ _ O3 B3
        exact ⟨va3, vc3, by rw [HK2.out]; rfl, by rw [HK2.out]; exact f1, f2⟩

/-- The code and the slots of a put. -/
def puC (l : List Sl) (s : Sl) : Int := if slF l = 0 then (if slOk s = true then (if 12 < (slPut l s).length then 10 else 0) else 3) else slF l
def puL (l : List Sl) (s : Sl) : List Sl := if slF l = 0 ∧ slOk s = true ∧ ¬ 12 < (slPut l s).length then slPut l s else []
theorem nil_ownS (w : World) (base : Nat) : OwnS w base (.slice none 0 0) [] := ⟨rfl, .inl ⟨rfl, rfl⟩⟩
theorem puL_nil {l : List Sl} {s : Sl} (h : puC l s ≠ 0) : puL l s = [] := by
  unfold puC at h
  unfold puL
  rw [if_neg]
  rintro ⟨h1, h2, h3⟩
  rw [if_pos h1, if_pos h2, if_neg h3] at h
  exact h rfl
theorem puL_len (l : List Sl) (s : Sl) : (puL l s).length ≤ 12 := by
  unfold puL
  split
  · omega
  · simp
theorem puL_wf {l : List Sl} {s : Sl} (hs : (Lit.int .i64 s.1).wf = true ∧ (Lit.int .i64 s.2).wf = true) (hl : WfS l) : WfS (puL l s) := by
  unfold puL
  split
  · rename_i h
    intro x hx
    rcases slPut_mem (slF_zero h.1).2.2 x hx with rfl | e
    · exact hs
    · exact hl x e
  · simp [WfS]

set_option maxHeartbeats 2000000 in
theorem specPutSlot_any (a : Option Addr) (c : Nat) (l : List Sl) (x y : Int) (w : World) (h : HasS w a l) (hl : l.length ≤ 1048576) :
    Calls Tryd.prog 30 #[.slice a l.length c, .agg #[.int .i64 x, .int .i64 y]] w fun r w' => ∃ a' c', r = .returned (.agg #[.int .i64 (puC l (x, y)), .slice a' (puL l (x, y)).length c']) ∧ OwnS w' w.heap.size (.slice a' (puL l (x, y)).length c') (puL l (x, y)) ∧ Below w.heap.size w w' := by
  obtain ⟨E, hE⟩ : ∃ E, E = ((w.alloc (.cells #[.int .i64 x, .int .i64 y] 50)).alloc (.cells #[.int .i64 0, .slice none 0 0] 54)) := ⟨_, rfl⟩
  have EW : Below w.heap.size w E := by rw [hE]; exact ((Below.refl _ _).alloc (Nat.le_refl _) _).alloc (by simp) _
  have zE : E.heap.size = w.heap.size + 1 + 1 := by rw [hE]; simp
  have CE : Hid (∀ u : World, Below E.heap.size E u → (u.cell? ⟨w.heap.size, 0, none⟩ = some (.int .i64 x) ∧ u.cell? ⟨w.heap.size, 1, none⟩ = some (.int .i64 y)) ∧ (u.cell? ⟨w.heap.size + 1, 0, none⟩ = some (.int .i64 0) ∧ u.cell? ⟨w.heap.size + 1, 1, none⟩ = some (.slice none 0 0)) ∧ (u.frozen? ⟨w.heap.size + 1, 0, none⟩ = false ∧ u.frozen? ⟨w.heap.size + 1, 1, none⟩ = false) ∧ Below w.heap.size w u ∧ w.heap.size + 1 < u.heap.size) := by
    intro u hu
    have q : ∀ b o, b < E.heap.size → u.cell? ⟨b, o, none⟩ = E.cell? ⟨b, o, none⟩ := fun b o hb => hu.cell (p := ⟨b, o, none⟩) hb
    have f : ∀ b o, b < E.heap.size → u.frozen? ⟨b, o, none⟩ = E.frozen? ⟨b, o, none⟩ := fun b o hb => hu.frozen (p := ⟨b, o, none⟩) hb
    have hs := hu.size
    refine ⟨⟨(q _ _ (by omega)).trans (by rw [hE]; simp [go_sem]), (q _ _ (by omega)).trans (by rw [hE]; simp [go_sem])⟩, ⟨(q _ _ (by omega)).trans (by rw [hE]; simp [go_sem]), (q _ _ (by omega)).trans (by rw [hE]; simp [go_sem])⟩, ⟨(f _ _ (by omega)).trans (by rw [hE]; simp [go_sem]), (f _ _ (by omega)).trans (by rw [hE]; simp [go_sem])⟩, EW.trans (hu.mono (by omega)), by omega⟩
  have hA := h.below EW (Nat.le_refl _)
  have LF : Hid (∀ u : World, HasS u a l → Calls Tryd.prog 64 #[.slice a l.length c] u fun r w' => r = .returned (.int .i64 (slF l)) ∧ Below u.heap.size u w') := fun u hu => l7Fault_any a c l u hu hl
  have PC : Hid (puC l (x, y) = if slF l = 0 then (if slOk (x, y) = true then (if 12 < (slPut l (x, y)).length then 10 else 0) else 3) else slF l) := rfl
  have PL : Hid (puC l (x, y) ≠ 0 → puL l (x, y) = []) := fun h => puL_nil h
  have PS : Hid (slF l = 0 → slOk (x, y) = true → ¬ 12 < (slPut l (x, y)).length → puL l (x, y) = slPut l (x, y)) := fun h1 h2 h3 => by unfold puL; rw [if_pos ⟨h1, h2, h3⟩]
  have ok1 : decide (0 ≤ x ∧ x ≤ 63) = true → decide (0 ≤ y ∧ y ≤ 65520) = true → slOk (x, y) = true := fun h1 h2 => slOk_true h1 h2
  have ok2 : decide (0 ≤ x ∧ x ≤ 63) = false → slOk (x, y) = false := fun h => slOk_false1 h
  have ok3 : decide (0 ≤ y ∧ y ≤ 65520) = false → slOk (x, y) = false := fun h => slOk_false2 h
  have D0 : Below E.heap.size E E := Below.refl _ _
  by_cases hc : slF l = 0
  case neg =>
    have hc' : (slF l != 0) = true := by simpa using hc
    have e1 : Hid (puC l (x, y) = slF l) := by show _ = _; rw [PC.out, if_neg hc]
    have e2 : Hid (puL l (x, y) = []) := PL.out (by rw [e1.out]; exact hc)
    generalize puC l (x, y) = pc at *
    generalize puL l (x, y) = pl at *
    generalize slF l = cc at *
    clear PC PL PS ok1 ok2 ok3 h hc EW
    go_enter Tryd.func30, Tryd.ntmps30
    go_wp2_with fail
    simp only [← hE]
    clear hE
    refine (LF.out _ hA).mono ?_
    rintro r u1 ⟨rfl, hb1⟩
    obtain ⟨⟨c1, c2⟩, ⟨r1, r2⟩, ⟨f1, f2⟩, B1, z1⟩ := CE.out u1 hb1
    go_wp2
    refine bodyPost_ret (v := .agg #[.int .i64 (cc), (.slice none 0 0)]) (by simp [results, Tryd.results30, go_sem, r1, r2]) rfl ⟨none, 0, by rw [e1.out, e2.out]; rfl, by rw [e2.out]; exact nil_ownS _ _, ?_⟩
    exact (B1.setCell (by simp) _).setCell (by simp) _
  rw [hc] at LF
  have hr := (slF_zero hc)
  have HC : Hid (slF l = 0) := hc
  clear hc
  by_cases d1 : decide (0 ≤ x ∧ x ≤ 63) = true
  case neg =>
    have d1' : decide (0 ≤ x ∧ x ≤ 63) = false := by simpa using d1
    have e1 : Hid (puC l (x, y) = 3) := by show _ = _; rw [PC.out, if_pos HC.out, ok2 d1']; rfl
    have e2 : Hid (puL l (x, y) = []) := PL.out (by rw [e1.out]; decide)
    generalize puC l (x, y) = pc at *
    generalize puL l (x, y) = pl at *
    clear PC PL PS ok1 ok2 ok3 h d1 EW hr HC
    go_enter Tryd.func30, Tryd.ntmps30
    go_wp2_with fail
    simp only [← hE]
    clear hE
    refine (LF.out _ hA).mono ?_
    rintro r u1 ⟨rfl, hb1⟩
    obtain ⟨⟨c1, c2⟩, ⟨r1, r2⟩, ⟨f1, f2⟩, B1, z1⟩ := CE.out u1 hb1
    go_wp2_with (go_at_call 58; refine (l7Key_any x _).mono ?_; rintro r u ⟨rfl, rfl⟩; rw [d1'])
    refine bodyPost_ret (v := .agg #[.int .i64 (3), (.slice none 0 0)]) (by simp [results, Tryd.results30, go_sem, r1, r2]) rfl ⟨none, 0, by rw [e1.out, e2.out]; rfl, by rw [e2.out]; exact nil_ownS _ _, ?_⟩
    exact (B1.setCell (by simp) _).setCell (by simp) _
  by_cases d2 : decide (0 ≤ y ∧ y ≤ 65520) = true
  case neg =>
    have d2' : decide (0 ≤ y ∧ y ≤ 65520) = false := by simpa using d2
    have e1 : Hid (puC l (x, y) = 3) := by show _ = _; rw [PC.out, if_pos HC.out, ok3 d2']; rfl
    have e2 : Hid (puL l (x, y) = []) := PL.out (by rw [e1.out]; decide)
    generalize puC l (x, y) = pc at *
    generalize puL l (x, y) = pl at *
    clear PC PL PS ok1 ok2 ok3 h d2 EW hr HC
    go_enter Tryd.func30, Tryd.ntmps30
    go_wp2_with fail
    simp only [← hE]
    clear hE
    refine (LF.out _ hA).mono ?_
    rintro r u1 ⟨rfl, hb1⟩
    obtain ⟨⟨c1, c2⟩, ⟨r1, r2⟩, ⟨f1, f2⟩, B1, z1⟩ := CE.out u1 hb1
    go_wp2_with (first | (go_at_call 58; refine (l7Key_any x _).mono ?_; rintro r u ⟨rfl, rfl⟩; rw [d1]) | (go_at_call 59; refine (l2Is_any y _).mono ?_; rintro r u ⟨rfl, rfl⟩; rw [d2']))
    refine bodyPost_ret (v := .agg #[.int .i64 (3), (.slice none 0 0)]) (by simp [results, Tryd.results30, go_sem, r1, r2]) rfl ⟨none, 0, by rw [e1.out, e2.out]; rfl, by rw [e2.out]; exact nil_ownS _ _, ?_⟩
    exact (B1.setCell (by simp) _).setCell (by simp) _
  have HO : Hid (slOk (x, y) = true) := ok1 d1 d2
  have PT : Hid (∀ u : World, HasS u a l → Calls Tryd.prog 73 #[.slice a l.length c, .agg #[.int .i64 x, .int .i64 y]] u fun r w' => ∃ a' c', r = .returned (.slice a' (slPut l (x, y)).length c') ∧ OwnS w' u.heap.size (.slice a' (slPut l (x, y)).length c') (slPut l (x, y)) ∧ Below u.heap.size u w') := fun u hu => l7Put_any a c l x y u hu (by omega)
  have pl13 : (slPut l (x, y)).length ≤ 13 := by have h1 := slPut_len (s := (x, y)) hr.2.2; have h2 := hr.1; split at h1 <;> omega
  by_cases hf : 12 < (slPut l (x, y)).length
  case pos =>
    have e1 : Hid (puC l (x, y) = 10) := by show _ = _; rw [PC.out, if_pos HC.out, if_pos HO.out, if_pos hf]
    have e2 : Hid (puL l (x, y) = []) := PL.out (by rw [e1.out]; decide)
    have hf' : (12 : Int) < ((slPut l (x, y)).length : Int) := by omega
    generalize puC l (x, y) = pc at *
    generalize puL l (x, y) = pl at *
    generalize slPut l (x, y) = PP at *
    clear PC PL PS ok1 ok2 ok3 h EW hr HC
    go_enter Tryd.func30, Tryd.ntmps30
    go_wp2_with fail
    simp only [← hE]
    clear hE
    refine (LF.out _ hA).mono ?_
    rintro r u1 ⟨rfl, hb1⟩
    obtain ⟨⟨c1, c2⟩, ⟨r1, r2⟩, ⟨f1, f2⟩, B1, z1⟩ := CE.out u1 hb1
    have h1 := hA.below hb1 (Nat.le_refl _)
    go_wp2_with (first | (go_at_call 58; refine (l7Key_any x _).mono ?_; rintro r u ⟨rfl, rfl⟩; rw [d1]) | (go_at_call 59; refine (l2Is_any y _).mono ?_; rintro r u ⟨rfl, rfl⟩; rw [d2]))
    refine (PT.out _ h1).mono ?_
    rintro r u2 ⟨a2, k2, rfl, O2, hb2⟩
    clear r1 r2 f1 f2 B1 z1
    obtain ⟨_, ⟨r1, r2⟩, ⟨f1, f2⟩, B1, z1⟩ := CE.out u2 (hb1.trans (hb2.mono hb1.size))
    go_wp2
    refine bodyPost_ret (v := .agg #[.int .i64 (10), (.slice none 0 0)]) (by simp [results, Tryd.results30, go_sem, r1, r2]) rfl ⟨none, 0, by rw [e1.out, e2.out]; rfl, by rw [e2.out]; exact nil_ownS _ _, ?_⟩
    exact (B1.setCell (by simp) _).setCell (by simp) _
  have e1 : Hid (puC l (x, y) = 0) := by show _ = _; rw [PC.out, if_pos HC.out, if_pos HO.out, if_neg hf]
  have e2 : Hid (puL l (x, y) = slPut l (x, y)) := PS.out HC.out HO.out hf
  have hf' : ¬ (12 : Int) < ((slPut l (x, y)).length : Int) := by omega
  generalize puC l (x, y) = pc at *
  generalize puL l (x, y) = pl at *
  generalize slPut l (x, y) = PP at *
  clear PC PL PS ok1 ok2 ok3 h EW hr HC
  go_enter Tryd.func30, Tryd.ntmps30
  go_wp2_with fail
  simp only [← hE]
  clear hE
  refine (LF.out _ hA).mono ?_
  rintro r u1 ⟨rfl, hb1⟩
  obtain ⟨⟨c1, c2⟩, ⟨r1, r2⟩, ⟨f1, f2⟩, B1, z1⟩ := CE.out u1 hb1
  have h1 := hA.below hb1 (Nat.le_refl _)
  have w1z := hb1.size
  go_wp2_with (first | (go_at_call 58; refine (l7Key_any x _).mono ?_; rintro r u ⟨rfl, rfl⟩; rw [d1]) | (go_at_call 59; refine (l2Is_any y _).mono ?_; rintro r u ⟨rfl, rfl⟩; rw [d2]))
  refine (PT.out _ h1).mono ?_
  rintro r u2 ⟨a2, k2, rfl, O2, hb2⟩
  clear r1 r2 f1 f2 B1 z1
  obtain ⟨_, ⟨r1, r2⟩, ⟨f1, f2⟩, B1, z1⟩ := CE.out u2 (hb1.trans (hb2.mono hb1.size))
  have O3 : Hid (OwnS u2 E.heap.size (.slice a2 PP.length k2) PP) := own2_mono O2 w1z
  clear O2
  go_wp2
  refine bodyPost_ret (v := .agg #[.int .i64 (0), (.slice a2 PP.length k2)]) (by simp [results, Tryd.results30, go_sem, r1, r2]) rfl ⟨a2, k2, by rw [e1.out, e2.out], ?_, ?_⟩
  · rw [e2.out]
    exact own2_mono (own2_set (own2_set O3.out (by omega) _) (by omega) _) (by omega)
  · exact (B1.setCell (by simp) _).setCell (by simp) _

end Go.Proofs.YtjjddjohckcmbaaDoor
