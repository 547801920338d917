/- Contracts: copies of lists, of signatures, of signed heads. Contracts: the model's draw of a bent signed head. Contracts: the model's draw of two signed heads. Contracts: the model's draw for CheckHead. -/
import Derived.Test.YtffidkoejlebeaaGreatDoorHdQ
import Derived.Test.YtffidkoejlebeaaGreatDoorHdW
import Derived.Test.YtffidkoejlebeaaGreatDoorPath4S
namespace Go.Proofs.YtffidkoejlebeaaGreatDoor
open Go.ChangeShapes Go.WideShapes Go.ChangeAt Go.RowKit
set_option maxRecDepth 100000
set_option linter.unusedVariables false
set_option linter.unusedSimpArgs false

/-- A fact that is kept from the walk. -/
structure Kept9 (p : Prop) : Prop where
  out : p

theorem ints_any9 (a : Option Addr) (cap : Nat) (zs : List Int) (w : World) (h : Has w .i64 a zs.length zs) (hl : zs.length ≤ 1048576) :
    Calls Tryz.prog 76 #[.slice a zs.length cap] w fun r w' => ∃ a' c', r = .returned (.slice a' zs.length c') ∧ w'.ownsRow w.heap.size 2 1 (.slice a' zs.length c') zs.length (zs.map (.int .i64)) ∧ Below w.heap.size w w' := by
  obtain ⟨i0, hi, hz0, hz1, hz2⟩ := info_parts info64
  have hown0 : (w.alloc (.cells #[] 2)).ownsRow w.heap.size 2 1 (.slice (some ⟨w.heap.size, 0, none⟩) 0 0) 0 (([] : List Int).map (.int .i64)) := World.ownsRow_lit w #[] 0 (Nat.le_refl _) (Nat.zero_le _) rfl
  have h' := h.alloc (.cells #[] 2)
  cases a with
  | none =>
    have h0 : zs.length = 0 := by
      rcases h.2.2 with c | ⟨_, _, c, _⟩
      · exact c
      · cases c
    obtain rfl : zs = [] := List.eq_nil_of_length_eq_zero h0
    clear h0 h h'
    simp only [List.length_nil]
    go_enter Tryz.func76, Tryz.ntmps76
    go_wp2
    go_ret
    exact ⟨_, _, rfl, hown0, (Below.refl _ _).alloc (Nat.le_refl _) _⟩
  | some ad =>
    have hnews := h'.news
    have H1 := Kept9.mk hnews
    clear hnews h h'
    go_enter Tryz.func76, Tryz.ntmps76
    go_wp2_with (at_builtin; (refine wpList_append_own _ rfl _ _ 34 rfl w.heap.size 2 i0 (.int .i64 0) 1 8 Tryz.underlying34 hi hz0 hz1 hz2 rfl (by decide) _ _ _ rfl hown0 ad zs.length cap (zs.map (.int .i64)) rfl (by simp) H1.out (by intro u hu; simp at hu; obtain ⟨n, _, rfl⟩ := hu; rfl) (by unfold maxLen; omega) (by omega) (by simp) ?_); intro v' w3 hown3 hgrow _h4)
    have O3 : w3.ownsRow w.heap.size 2 1 v' zs.length (zs.map (.int .i64)) := by simpa using hown3
    obtain ⟨a', c', rfl⟩ := own_row_shape O3
    go_ret
    exact ⟨a', c', rfl, O3, ((Below.refl _ _).alloc (Nat.le_refl _) _).trans ((Below.refl _ _).grown hgrow (by simp) (fun k hk => (hown0.lt k hk).1))⟩

/-- A signature's lists in memory of its own. -/
structure OwnG (w : World) (base : Nat) (a1 a2 : Option Addr) (c1 c2 : Nat) (xs ys : List Int) : Prop where
  one : w.ownsRow base 2 1 (.slice a1 xs.length c1) xs.length (xs.map (.int .i64))
  two : w.ownsRow base 2 1 (.slice a2 ys.length c2) ys.length (ys.map (.int .i64))
  ap : ∀ x y, a1 = some x → a2 = some y → x.block ≠ y.block

theorem OwnG.mono {w : World} {base base' : Nat} {a1 a2 : Option Addr} {c1 c2 : Nat} {xs ys : List Int} (h : OwnG w base a1 a2 c1 c2 xs ys) (hb : base' ≤ base) : OwnG w base' a1 a2 c1 c2 xs ys := ⟨own_mono h.one hb, own_mono h.two hb, h.ap⟩

theorem OwnG.row {w : World} {base g : Nat} {cs : Array Value} {a1 a2 : Option Addr} {c1 c2 : Nat} {xs ys : List Int} (h : OwnG w base a1 a2 c1 c2 xs ys) (hp : g < base) : OwnG (w.setRow g cs) base a1 a2 c1 c2 xs ys := by
  have f : ∀ {a : Option Addr} {n c : Nat} {l : List Value}, w.ownsRow base 2 1 (.slice a n c) n l → (w.setRow g cs).ownsRow base 2 1 (.slice a n c) n l := fun ho => own_blk9 ho (fun x e => setRow_other w g x.block cs (by have := own_base ho x e; omega))
  exact ⟨f h.one, f h.two, h.ap⟩

set_option maxHeartbeats 4000000 in
theorem l8Copy_any (i : Int) (a b : Option Addr) (ca cb : Nat) (xs ys : List Int) (w : World) (ha : Has w .i64 a xs.length xs) (hb : Has w .i64 b ys.length ys) (hx : xs.length ≤ 1048576) (hy : ys.length ≤ 1048576) :
    Calls Tryz.prog 75 #[.agg #[.int .i64 i, .slice a xs.length ca, .slice b ys.length cb]] w fun e w' => ∃ a1 c1 a2 c2, e = .returned (.agg #[.int .i64 i, .slice a1 xs.length c1, .slice a2 ys.length c2]) ∧ OwnG w' w.heap.size a1 a2 c1 c2 xs ys ∧ Below w.heap.size w w' := by
  obtain ⟨E, hE⟩ : ∃ E, E = (w.alloc (.cells #[.int .i64 i, .slice a xs.length ca, .slice b ys.length cb] 36)).alloc (.cells #[.int .i64 0, .slice none 0 0, .slice none 0 0] 36) := ⟨_, rfl⟩
  have BE : Below w.heap.size w E := by rw [hE]; exact ((Below.refl _ _).alloc (Nat.le_refl _) _).alloc (by simp) _
  have R1 : Blk E w.heap.size #[.int .i64 i, .slice a xs.length ca, .slice b ys.length cb] 36 := by rw [hE]; exact (Blk.new _ _ _).below ((Below.refl _ _).alloc (Nat.le_refl _) _) (Blk.new _ _ _).lt
  have R2 : Blk E (w.heap.size + 1) #[.int .i64 0, .slice none 0 0, .slice none 0 0] 36 := by
    have := Blk.new (w.alloc (.cells #[.int .i64 i, .slice a xs.length ca, .slice b ys.length cb] 36)) #[.int .i64 0, .slice none 0 0, .slice none 0 0] 36
    rw [World.size_alloc] at this
    rw [hE]; exact this
  have zE : E.heap.size = w.heap.size + 1 + 1 := by rw [hE]; simp
  obtain ⟨V, hV⟩ : ∃ V, V = w.heap.size + 1 := ⟨_, rfl⟩
  rw [← hV] at R2
  have vE : V < E.heap.size := by omega
  have vw : w.heap.size ≤ V := by omega
  have hWV : w.heap.size ≠ V := by omega
  have I1 : Kept9 (∀ u : World, Below E.heap.size E u → Calls Tryz.prog 76 #[.slice a xs.length ca] u fun r w' => ∃ a' c', r = .returned (.slice a' xs.length c') ∧ w'.ownsRow u.heap.size 2 1 (.slice a' xs.length c') xs.length (xs.map (.int .i64)) ∧ Below u.heap.size u w') := ⟨fun u h => ints_any9 a ca xs u (ha.below (BE.trans (h.mono BE.size)) (Nat.le_refl _)) hx⟩
  have I2 : Kept9 (∀ u : World, Below E.heap.size E u → Calls Tryz.prog 76 #[.slice b ys.length cb] u fun r w' => ∃ a' c', r = .returned (.slice a' ys.length c') ∧ w'.ownsRow u.heap.size 2 1 (.slice a' ys.length c') ys.length (ys.map (.int .i64)) ∧ Below u.heap.size u w') := ⟨fun u h => ints_any9 b cb ys u (hb.below (BE.trans (h.mono BE.size)) (Nat.le_refl _)) hy⟩
  clear ha hb hx hy
  have R1H := Kept9.mk R1
  have EZ := Kept9.mk (show w.heap.size ≤ E.heap.size by omega)
  have WV := Kept9.mk hV.symm
  clear R1 zE hV
  go_enter Tryz.func75, Tryz.ntmps75
  go_wp2_with fail
  simp only [← hE]
  clear hE
  rw [WV.out]
  refine wp_region_noPanic ?_
  refine wp_region_held_drew (S := fun u => Blk u w.heap.size #[.int .i64 i, .slice a xs.length ca, .slice b ys.length cb] 36) (by kernel_rfl) (R1H.out.below (Below.refl E.heap.size E).drew R1H.out.lt) (fun hs => ?_)
  have D : Below E.heap.size E E.drew := (Below.refl _ _).drew
  obtain ⟨XD, hXD⟩ := al_w D
  rw [← hXD] at hs D
  have RV := R2.below D vE
  simp only [← hXD]
  clear hXD R2
  refine take_at (i := 0) (d := some 3) (v := ?mv1) rfl rfl (by kernel_rfl) (by kernel_rfl) (by kernel_rfl) (fun _ _ _ h => h) (Or.inl ⟨by rfl, ?my1⟩) hs ?mg1
  case my1 => (intro z hSz; (have hq := hSz; have e0 := hq.cell 0; have e1 := hq.cell 1; have e2 := hq.cell 2; have e9 := hq.lt; simp at e0 e1 e2); go_simp; (try with_reducible rfl))
  try simp only [Act.put, List.setIfInBounds_toArray, List.set_cons_zero, List.set_cons_succ]
  refine take_at (i := 1) (d := some 4) (v := ?mv2) rfl rfl (by kernel_rfl) (by kernel_rfl) (by kernel_rfl) (fun _ _ _ h => h) (Or.inl ⟨by rfl, ?my2⟩) hs ?mg2
  case my2 => (intro z hSz; (have hq := hSz; have e0 := hq.cell 0; have e1 := hq.cell 1; have e2 := hq.cell 2; have e9 := hq.lt; simp at e0 e1 e2); go_simp; (try with_reducible rfl))
  try simp only [Act.put, List.setIfInBounds_toArray, List.set_cons_zero, List.set_cons_succ]
  refine take_at (i := 2) (d := some 5) (v := ?mv3) rfl rfl (by kernel_rfl) (by kernel_rfl) (by kernel_rfl) (fun _ _ _ h => h) (Or.inl ⟨by rfl, ?my3⟩) hs ?mg3
  case my3 => (intro z hSz; (have hq := hSz; have e0 := hq.cell 0; have e1 := hq.cell 1; have e2 := hq.cell 2; have e9 := hq.lt; simp at e0 e1 e2); go_simp; (try with_reducible rfl))
  try simp only [Act.put, List.setIfInBounds_toArray, List.set_cons_zero, List.set_cons_succ]
  refine take_at (i := 3) (d := some 6) (v := ?mv4) rfl rfl (by kernel_rfl) (by kernel_rfl) (by kernel_rfl) (fun _ _ _ h => h) (Or.inl ⟨by rfl, ?my4⟩) hs ?mg4
  case my4 => (intro z hSz; (have hq := hSz; have e0 := hq.cell 0; have e1 := hq.cell 1; have e2 := hq.cell 2; have e9 := hq.lt; simp at e0 e1 e2); go_simp; (try with_reducible rfl))
  try simp only [Act.put, List.setIfInBounds_toArray, List.set_cons_zero, List.set_cons_succ]
  refine take_at (i := 5) (d := some 8) (v := ?mv5) rfl rfl (by kernel_rfl) (by kernel_rfl) (by kernel_rfl) (fun _ _ _ h => h) (Or.inl ⟨by rfl, ?my5⟩) hs ?mg5
  case my5 => (intro z hSz; (have hq := hSz; have e0 := hq.cell 0; have e1 := hq.cell 1; have e2 := hq.cell 2; have e9 := hq.lt; simp at e0 e1 e2); go_simp; (try with_reducible rfl))
  try simp only [Act.put, List.setIfInBounds_toArray, List.set_cons_zero, List.set_cons_succ]
  refine take_at (i := 6) (d := some 9) (v := ?mv6) rfl rfl (by kernel_rfl) (by kernel_rfl) (by kernel_rfl) (fun _ _ _ h => h) (Or.inl ⟨by rfl, ?my6⟩) hs ?mg6
  case my6 => (intro z hSz; (have hq := hSz; have e0 := hq.cell 0; have e1 := hq.cell 1; have e2 := hq.cell 2; have e9 := hq.lt; simp at e0 e1 e2); go_simp; (try with_reducible rfl))
  try simp only [Act.put, List.setIfInBounds_toArray, List.set_cons_zero, List.set_cons_succ]
  refine wpAnyH_ready (rs := [4]) (by kernel_rfl) (by simp) ?_
  refine AllReadyH.cons rfl (fun K' hK' => ?_) AllReadyH.nil
  go_simp
  refine (I1.out _ D).mono ?_
  rintro _ ua ⟨a1, c1, rfl, O1, hba⟩
  have za := D.size
  refine hK'.out _ _ (hs.below hba hs.lt) (fun hs => ?_)
  clear hK' K'
  try simp only [Act.put, List.setIfInBounds_toArray, List.set_cons_zero, List.set_cons_succ]
  replace D := D.trans (hba.mono D.size)
  replace RV := RV.below hba RV.lt
  refine wpAnyH_ready (rs := [7]) (by kernel_rfl) (by simp) ?_
  refine AllReadyH.cons rfl (fun K' hK' => ?_) AllReadyH.nil
  go_simp
  refine (I2.out _ D).mono ?_
  rintro _ ub ⟨a2, c2, rfl, O2, hbb⟩
  have zb := D.size
  refine hK'.out _ _ (hs.below hbb hs.lt) (fun hs => ?_)
  clear hK' K'
  try simp only [Act.put, List.setIfInBounds_toArray, List.set_cons_zero, List.set_cons_succ]
  replace D := D.trans (hbb.mono D.size)
  replace RV := RV.below hbb RV.lt
  have OH : OwnG ub E.heap.size a1 a2 c1 c2 xs ys := ⟨own_mono (own_below O1 hbb) za, own_mono O2 zb, fun x y e1 e2 => by have h1 := own_lt9 O1 x e1; have h2 := own_base O2 y e2; omega⟩
  clear O1 O2 hba hbb za zb
  refine take_at (i := 8) (d := some 11) (v := ?mv7) rfl rfl (by kernel_rfl) (by kernel_rfl) (by kernel_rfl) (fun _ _ _ h => h) (Or.inl ⟨by rfl, ?my7⟩) hs ?mg7
  case my7 => (intro z hSz; (have hq := hSz; have e0 := hq.cell 0; have e1 := hq.cell 1; have e2 := hq.cell 2; have e9 := hq.lt; simp at e0 e1 e2); go_simp; (try with_reducible rfl))
  try simp only [Act.put, List.setIfInBounds_toArray, List.set_cons_zero, List.set_cons_succ]
  refine wpAnyH_ready (rs := [9]) (by kernel_rfl) (by simp) ?_
  refine AllReadyH.cons rfl (fun K' hK' => ?_) AllReadyH.nil
  have DW := BE.trans (D.mono BE.size)
  refine wp_store_row 36 _ _ rfl V #[.int .i64 i, .slice a1 xs.length c1, .slice a2 ys.length c2] rfl rfl 36 _ RV rfl rfl (by kernel_rfl) ?_
  refine hK'.out _ _ (row_keep hWV hs) (fun hs => ?_)
  clear hK' K'
  try simp only [Act.put, List.setIfInBounds_toArray, List.set_cons_zero, List.set_cons_succ]
  replace RV := row_new (cs := #[.int .i64 i, .slice a1 xs.length c1, .slice a2 ys.length c2]) RV
  replace OH := OH.row (g := V) (cs := #[.int .i64 i, .slice a1 xs.length c1, .slice a2 ys.length c2]) vE
  have DX := below_setRow DW vw #[.int .i64 i, .slice a1 xs.length c1, .slice a2 ys.length c2]
  refine wpAnyH_done (by kernel_rfl) (NoPanic.normal ?_) _
  obtain ⟨X, hX⟩ := al_w DX
  rw [← hX] at RV OH DX
  simp only [← hX]
  clear hX hs DW D
  have k0 := RV.cell 0
  have k1 := RV.cell 1
  have k2 := RV.cell 2
  simp at k0 k1 k2
  have OQ := Kept9.mk OH
  clear RV OH
  go_wp2
  refine bodyPost_ret (v := .agg #[.int .i64 i, .slice a1 xs.length c1, .slice a2 ys.length c2]) (by simp [results, Tryz.results75, go_sem, k0, k1, k2]) rfl ⟨a1, c1, a2, c2, rfl, OQ.out.mono EZ.out, DX⟩

set_option maxHeartbeats 4000000 in
theorem l9Copy_any (z r m k i : Int) (a b c : Option Addr) (ca cb cc : Nat) (xs ys zs : List Int) (w : World) (ha : Has w .i64 a xs.length xs) (hb : Has w .i64 b ys.length ys) (hc : Has w .i64 c zs.length zs) (hx : xs.length ≤ 1048576) (hy : ys.length ≤ 1048576) (hz : zs.length ≤ 1048576) :
    Calls Tryz.prog 44 #[.agg #[.int .i64 z, .int .i64 r, .int .i64 m, .int .i64 k, .int .i64 i, .slice a xs.length ca, .slice b ys.length cb, .slice c zs.length cc]] w fun e w' => ∃ a1 c1 a2 c2 a3 c3, e = .returned (.agg #[.int .i64 z, .int .i64 r, .int .i64 m, .int .i64 k, .int .i64 i, .slice a1 xs.length c1, .slice a2 ys.length c2, .slice a3 zs.length c3]) ∧ OwnH w' w.heap.size a1 a2 a3 c1 c2 c3 xs ys zs ∧ Below w.heap.size w w' := by
  obtain ⟨E, hE⟩ : ∃ E, E = (w.alloc (.cells #[.int .i64 z, .int .i64 r, .int .i64 m, .int .i64 k, .int .i64 i, .slice a xs.length ca, .slice b ys.length cb, .slice c zs.length cc] 38)).alloc (.cells #[.int .i64 0, .int .i64 0, .int .i64 0, .int .i64 0, .int .i64 0, .slice none 0 0, .slice none 0 0, .slice none 0 0] 38) := ⟨_, rfl⟩
  have BE : Below w.heap.size w E := by rw [hE]; exact ((Below.refl _ _).alloc (Nat.le_refl _) _).alloc (by simp) _
  have R1 : Blk E w.heap.size #[.int .i64 z, .int .i64 r, .int .i64 m, .int .i64 k, .int .i64 i, .slice a xs.length ca, .slice b ys.length cb, .slice c zs.length cc] 38 := by rw [hE]; exact (Blk.new _ _ _).below ((Below.refl _ _).alloc (Nat.le_refl _) _) (Blk.new _ _ _).lt
  have R2 : Blk E (w.heap.size + 1) #[.int .i64 0, .int .i64 0, .int .i64 0, .int .i64 0, .int .i64 0, .slice none 0 0, .slice none 0 0, .slice none 0 0] 38 := by
    have := Blk.new (w.alloc (.cells #[.int .i64 z, .int .i64 r, .int .i64 m, .int .i64 k, .int .i64 i, .slice a xs.length ca, .slice b ys.length cb, .slice c zs.length cc] 38)) #[.int .i64 0, .int .i64 0, .int .i64 0, .int .i64 0, .int .i64 0, .slice none 0 0, .slice none 0 0, .slice none 0 0] 38
    rw [World.size_alloc] at this
    rw [hE]; exact this
  have zE : E.heap.size = w.heap.size + 1 + 1 := by rw [hE]; simp
  obtain ⟨V, hV⟩ : ∃ V, V = w.heap.size + 1 := ⟨_, rfl⟩
  rw [← hV] at R2
  have vE : V < E.heap.size := by omega
  have vw : w.heap.size ≤ V := by omega
  have hWV : w.heap.size ≠ V := by omega
  have I1 : Kept9 (∀ u : World, Below E.heap.size E u → Calls Tryz.prog 75 #[.agg #[.int .i64 i, .slice a xs.length ca, .slice b ys.length cb]] u fun e w' => ∃ a1 c1 a2 c2, e = .returned (.agg #[.int .i64 i, .slice a1 xs.length c1, .slice a2 ys.length c2]) ∧ OwnG w' u.heap.size a1 a2 c1 c2 xs ys ∧ Below u.heap.size u w') := ⟨fun u h => l8Copy_any i a b ca cb xs ys u (ha.below (BE.trans (h.mono BE.size)) (Nat.le_refl _)) (hb.below (BE.trans (h.mono BE.size)) (Nat.le_refl _)) hx hy⟩
  have I2 : Kept9 (∀ u : World, Below E.heap.size E u → Calls Tryz.prog 76 #[.slice c zs.length cc] u fun r w' => ∃ a' c', r = .returned (.slice a' zs.length c') ∧ w'.ownsRow u.heap.size 2 1 (.slice a' zs.length c') zs.length (zs.map (.int .i64)) ∧ Below u.heap.size u w') := ⟨fun u h => ints_any9 c cc zs u (hc.below (BE.trans (h.mono BE.size)) (Nat.le_refl _)) hz⟩
  clear ha hb hc hx hy hz
  have R1H := Kept9.mk R1
  have EZ := Kept9.mk (show w.heap.size ≤ E.heap.size by omega)
  have WV := Kept9.mk hV.symm
  clear R1 zE hV
  go_enter Tryz.func44, Tryz.ntmps44
  go_wp2_with fail
  simp only [← hE]
  clear hE
  rw [WV.out]
  refine wp_region_noPanic ?_
  refine wp_region_held_drew (S := fun u => Blk u w.heap.size #[.int .i64 z, .int .i64 r, .int .i64 m, .int .i64 k, .int .i64 i, .slice a xs.length ca, .slice b ys.length cb, .slice c zs.length cc] 38) (by kernel_rfl) (R1H.out.below (Below.refl E.heap.size E).drew R1H.out.lt) (fun hs => ?_)
  have D : Below E.heap.size E E.drew := (Below.refl _ _).drew
  obtain ⟨XD, hXD⟩ := al_w D
  rw [← hXD] at hs D
  have RV := R2.below D vE
  simp only [← hXD]
  clear hXD R2
  refine take_at (i := 0) (d := some 3) (v := ?mv8) rfl rfl (by kernel_rfl) (by kernel_rfl) (by kernel_rfl) (fun _ _ _ h => h) (Or.inl ⟨by rfl, ?my8⟩) hs ?mg8
  case my8 => (intro z hSz; (have hq := hSz; have e0 := hq.cell 0; have e1 := hq.cell 1; have e2 := hq.cell 2; have e3 := hq.cell 3; have e4 := hq.cell 4; have e5 := hq.cell 5; have e6 := hq.cell 6; have e7 := hq.cell 7; have e9 := hq.lt; simp at e0 e1 e2 e3 e4 e5 e6 e7); go_simp; (try with_reducible rfl))
  try simp only [Act.put, List.setIfInBounds_toArray, List.set_cons_zero, List.set_cons_succ]
  refine take_at (i := 1) (d := some 4) (v := ?mv9) rfl rfl (by kernel_rfl) (by kernel_rfl) (by kernel_rfl) (fun _ _ _ h => h) (Or.inl ⟨by rfl, ?my9⟩) hs ?mg9
  case my9 => (intro z hSz; (have hq := hSz; have e0 := hq.cell 0; have e1 := hq.cell 1; have e2 := hq.cell 2; have e3 := hq.cell 3; have e4 := hq.cell 4; have e5 := hq.cell 5; have e6 := hq.cell 6; have e7 := hq.cell 7; have e9 := hq.lt; simp at e0 e1 e2 e3 e4 e5 e6 e7); go_simp; (try with_reducible rfl))
  try simp only [Act.put, List.setIfInBounds_toArray, List.set_cons_zero, List.set_cons_succ]
  refine take_at (i := 2) (d := some 5) (v := ?mv10) rfl rfl (by kernel_rfl) (by kernel_rfl) (by kernel_rfl) (fun _ _ _ h => h) (Or.inl ⟨by rfl, ?my10⟩) hs ?mg10
  case my10 => (intro z hSz; (have hq := hSz; have e0 := hq.cell 0; have e1 := hq.cell 1; have e2 := hq.cell 2; have e3 := hq.cell 3; have e4 := hq.cell 4; have e5 := hq.cell 5; have e6 := hq.cell 6; have e7 := hq.cell 7; have e9 := hq.lt; simp at e0 e1 e2 e3 e4 e5 e6 e7); go_simp; (try with_reducible rfl))
  try simp only [Act.put, List.setIfInBounds_toArray, List.set_cons_zero, List.set_cons_succ]
  refine take_at (i := 3) (d := some 6) (v := ?mv11) rfl rfl (by kernel_rfl) (by kernel_rfl) (by kernel_rfl) (fun _ _ _ h => h) (Or.inl ⟨by rfl, ?my11⟩) hs ?mg11
  case my11 => (intro z hSz; (have hq := hSz; have e0 := hq.cell 0; have e1 := hq.cell 1; have e2 := hq.cell 2; have e3 := hq.cell 3; have e4 := hq.cell 4; have e5 := hq.cell 5; have e6 := hq.cell 6; have e7 := hq.cell 7; have e9 := hq.lt; simp at e0 e1 e2 e3 e4 e5 e6 e7); go_simp; (try with_reducible rfl))
  try simp only [Act.put, List.setIfInBounds_toArray, List.set_cons_zero, List.set_cons_succ]
  refine take_at (i := 5) (d := some 8) (v := ?mv12) rfl rfl (by kernel_rfl) (by kernel_rfl) (by kernel_rfl) (fun _ _ _ h => h) (Or.inl ⟨by rfl, ?my12⟩) hs ?mg12
  case my12 => (intro z hSz; (have hq := hSz; have e0 := hq.cell 0; have e1 := hq.cell 1; have e2 := hq.cell 2; have e3 := hq.cell 3; have e4 := hq.cell 4; have e5 := hq.cell 5; have e6 := hq.cell 6; have e7 := hq.cell 7; have e9 := hq.lt; simp at e0 e1 e2 e3 e4 e5 e6 e7); go_simp; (try with_reducible rfl))
  try simp only [Act.put, List.setIfInBounds_toArray, List.set_cons_zero, List.set_cons_succ]
  refine take_at (i := 6) (d := some 9) (v := ?mv13) rfl rfl (by kernel_rfl) (by kernel_rfl) (by kernel_rfl) (fun _ _ _ h => h) (Or.inl ⟨by rfl, ?my13⟩) hs ?mg13
  case my13 => (intro z hSz; (have hq := hSz; have e0 := hq.cell 0; have e1 := hq.cell 1; have e2 := hq.cell 2; have e3 := hq.cell 3; have e4 := hq.cell 4; have e5 := hq.cell 5; have e6 := hq.cell 6; have e7 := hq.cell 7; have e9 := hq.lt; simp at e0 e1 e2 e3 e4 e5 e6 e7); go_simp; (try with_reducible rfl))
  try simp only [Act.put, List.setIfInBounds_toArray, List.set_cons_zero, List.set_cons_succ]
  refine wpAnyH_ready (rs := [4]) (by kernel_rfl) (by simp) ?_
  refine AllReadyH.cons rfl (fun K' hK' => ?_) AllReadyH.nil
  go_simp
  refine (I1.out _ D).mono ?_
  rintro _ ua ⟨a1, c1, a2, c2, rfl, O1, hba⟩
  have za := D.size
  refine hK'.out _ _ (hs.below hba hs.lt) (fun hs => ?_)
  clear hK' K'
  try simp only [Act.put, List.setIfInBounds_toArray, List.set_cons_zero, List.set_cons_succ]
  replace D := D.trans (hba.mono D.size)
  replace RV := RV.below hba RV.lt
  refine wpAnyH_ready (rs := [7]) (by kernel_rfl) (by simp) ?_
  refine AllReadyH.cons rfl (fun K' hK' => ?_) AllReadyH.nil
  go_simp
  refine (I2.out _ D).mono ?_
  rintro _ ub ⟨a3, c3, rfl, O3, hbb⟩
  have zb := D.size
  refine hK'.out _ _ (hs.below hbb hs.lt) (fun hs => ?_)
  clear hK' K'
  try simp only [Act.put, List.setIfInBounds_toArray, List.set_cons_zero, List.set_cons_succ]
  replace D := D.trans (hbb.mono D.size)
  replace RV := RV.below hbb RV.lt
  have OH : OwnH ub E.heap.size a1 a2 a3 c1 c2 c3 xs ys zs := ⟨own_mono (own_below O1.one hbb) za, own_mono (own_below O1.two hbb) za, own_mono O3 zb, O1.ap, fun x y e1 e2 => by have h1 := own_lt9 O1.one x e1; have h2 := own_base O3 y e2; omega, fun x y e1 e2 => by have h1 := own_lt9 O1.two x e1; have h2 := own_base O3 y e2; omega⟩
  clear O1 O3 hba hbb za zb
  refine take_at (i := 8) (d := some 11) (v := ?mv14) rfl rfl (by kernel_rfl) (by kernel_rfl) (by kernel_rfl) (fun _ _ _ h => h) (Or.inl ⟨by rfl, ?my14⟩) hs ?mg14
  case my14 => (intro z hSz; (have hq := hSz; have e0 := hq.cell 0; have e1 := hq.cell 1; have e2 := hq.cell 2; have e3 := hq.cell 3; have e4 := hq.cell 4; have e5 := hq.cell 5; have e6 := hq.cell 6; have e7 := hq.cell 7; have e9 := hq.lt; simp at e0 e1 e2 e3 e4 e5 e6 e7); go_simp; (try with_reducible rfl))
  try simp only [Act.put, List.setIfInBounds_toArray, List.set_cons_zero, List.set_cons_succ]
  refine wpAnyH_ready (rs := [9]) (by kernel_rfl) (by simp) ?_
  refine AllReadyH.cons rfl (fun K' hK' => ?_) AllReadyH.nil
  have DW := BE.trans (D.mono BE.size)
  refine wp_store_row 38 _ _ rfl V #[.int .i64 z, .int .i64 r, .int .i64 m, .int .i64 k, .int .i64 i, .slice a1 xs.length c1, .slice a2 ys.length c2, .slice a3 zs.length c3] rfl rfl 38 _ RV rfl rfl (by kernel_rfl) ?_
  refine hK'.out _ _ (row_keep hWV hs) (fun hs => ?_)
  clear hK' K'
  try simp only [Act.put, List.setIfInBounds_toArray, List.set_cons_zero, List.set_cons_succ]
  replace RV := row_new (cs := #[.int .i64 z, .int .i64 r, .int .i64 m, .int .i64 k, .int .i64 i, .slice a1 xs.length c1, .slice a2 ys.length c2, .slice a3 zs.length c3]) RV
  replace OH := OH.row (g := V) (cs := #[.int .i64 z, .int .i64 r, .int .i64 m, .int .i64 k, .int .i64 i, .slice a1 xs.length c1, .slice a2 ys.length c2, .slice a3 zs.length c3]) vE
  have DX := below_setRow DW vw #[.int .i64 z, .int .i64 r, .int .i64 m, .int .i64 k, .int .i64 i, .slice a1 xs.length c1, .slice a2 ys.length c2, .slice a3 zs.length c3]
  refine wpAnyH_done (by kernel_rfl) (NoPanic.normal ?_) _
  obtain ⟨X, hX⟩ := al_w DX
  rw [← hX] at RV OH DX
  simp only [← hX]
  clear hX hs DW D
  have k0 := RV.cell 0
  have k1 := RV.cell 1
  have k2 := RV.cell 2
  have k3 := RV.cell 3
  have k4 := RV.cell 4
  have k5 := RV.cell 5
  have k6 := RV.cell 6
  have k7 := RV.cell 7
  simp at k0 k1 k2 k3 k4 k5 k6 k7
  have OQ := Kept9.mk OH
  clear RV OH
  go_wp2
  refine bodyPost_ret (v := .agg #[.int .i64 z, .int .i64 r, .int .i64 m, .int .i64 k, .int .i64 i, .slice a1 xs.length c1, .slice a2 ys.length c2, .slice a3 zs.length c3]) (by simp [results, Tryz.results44, go_sem, k0, k1, k2, k3, k4, k5, k6, k7]) rfl ⟨a1, c1, a2, c2, a3, c3, rfl, OQ.out.mono EZ.out, DX⟩

end Go.Proofs.YtffidkoejlebeaaGreatDoor

namespace Go.Proofs.YtffidkoejlebeaaGreatDoor
open Go.ChangeShapes Go.WideShapes Go.ChangeAt Go.RowKit
set_option maxRecDepth 100000
set_option linter.unusedVariables false
set_option linter.unusedSimpArgs false

/-- Three lists that are read. -/
structure H3 (w : World) (a1 a2 a3 : Option Addr) (xs ys zs : List Int) : Prop where
  one : Has w .i64 a1 xs.length xs
  two : Has w .i64 a2 ys.length ys
  three : Has w .i64 a3 zs.length zs

theorem has_off9 {w : World} {k : IntKind} {a : Option Addr} {len V p : Nat} {zs : List Int} (h : Has w k a len zs) (hV : ∀ y, a = some y → V ≠ y.block) (u : Value) : Has (w.setCell ⟨V, p, none⟩ u) k a len zs := by
  refine ⟨h.1, h.2.1, h.2.2.imp id ?_⟩
  rintro ⟨b, off, rfl, hlt, hc⟩
  have := hV _ rfl
  exact ⟨b, off, rfl, by simpa using hlt, fun i hi => (World.cell?_of_block (w := w) (Below.heap_setCell w ⟨V, p, none⟩ u b (Ne.symm this))).trans (hc i hi)⟩

theorem H3.set {w : World} {a1 a2 a3 : Option Addr} {xs ys zs : List Int} (h : H3 w a1 a2 a3 xs ys zs) {V : Nat} (n : ∀ y, (a1 = some y ∨ a2 = some y ∨ a3 = some y) → V ≠ y.block) (p : Nat) (u : Value) : H3 (w.setCell ⟨V, p, none⟩ u) a1 a2 a3 xs ys zs :=
  ⟨has_off9 h.one (fun y e => n y (.inl e)) u, has_off9 h.two (fun y e => n y (.inr (.inl e))) u, has_off9 h.three (fun y e => n y (.inr (.inr e))) u⟩

theorem H3.set8 {w : World} {a1 a2 a3 : Option Addr} {xs ys zs : List Int} (h : H3 w a1 a2 a3 xs ys zs) {V : Nat} (n : ∀ y, (a1 = some y ∨ a2 = some y ∨ a3 = some y) → V ≠ y.block) (x0 x1 x2 x3 x4 x5 x6 x7 : Value) : H3 ((((((((w.setCell ⟨V, 0, none⟩ x0).setCell ⟨V, 1, none⟩ x1).setCell ⟨V, 2, none⟩ x2).setCell ⟨V, 3, none⟩ x3).setCell ⟨V, 4, none⟩ x4).setCell ⟨V, 5, none⟩ x5).setCell ⟨V, 6, none⟩ x6).setCell ⟨V, 7, none⟩ x7) a1 a2 a3 xs ys zs :=
  (((((((h.set n 0 x0).set n 1 x1).set n 2 x2).set n 3 x3).set n 4 x4).set n 5 x5).set n 6 x6).set n 7 x7

theorem below8 {n V : Nat} {w u : World} (h : Below n w u) (hV : n ≤ V) (x0 x1 x2 x3 x4 x5 x6 x7 : Value) : Below n w ((((((((u.setCell ⟨V, 0, none⟩ x0).setCell ⟨V, 1, none⟩ x1).setCell ⟨V, 2, none⟩ x2).setCell ⟨V, 3, none⟩ x3).setCell ⟨V, 4, none⟩ x4).setCell ⟨V, 5, none⟩ x5).setCell ⟨V, 6, none⟩ x6).setCell ⟨V, 7, none⟩ x7) :=
  (((((((h.setCell (p := ⟨V, 0, none⟩) hV _).setCell (p := ⟨V, 1, none⟩) hV _).setCell (p := ⟨V, 2, none⟩) hV _).setCell (p := ⟨V, 3, none⟩) hV _).setCell (p := ⟨V, 4, none⟩) hV _).setCell (p := ⟨V, 5, none⟩) hV _).setCell (p := ⟨V, 6, none⟩) hV _).setCell (p := ⟨V, 7, none⟩) hV _

theorem only8 {s V : Nat} {w u : World} (h : Only s w u) (hV : w.heap.size ≤ V) (x0 x1 x2 x3 x4 x5 x6 x7 : Value) : Only s w ((((((((u.setCell ⟨V, 0, none⟩ x0).setCell ⟨V, 1, none⟩ x1).setCell ⟨V, 2, none⟩ x2).setCell ⟨V, 3, none⟩ x3).setCell ⟨V, 4, none⟩ x4).setCell ⟨V, 5, none⟩ x5).setCell ⟨V, 6, none⟩ x6).setCell ⟨V, 7, none⟩ x7) :=
  (((((((h.storeNew hV _).storeNew hV _).storeNew hV _).storeNew hV _).storeNew hV _).storeNew hV _).storeNew hV _).storeNew hV _

theorem OwnH.only {w w' : World} {base s : Nat} {a1 a2 a3 : Option Addr} {c1 c2 c3 : Nat} {xs ys zs : List Int} (h : OwnH w base a1 a2 a3 c1 c2 c3 xs ys zs) (ho : Only s w w') (hs : s < base) : OwnH w' base a1 a2 a3 c1 c2 c3 xs ys zs := ⟨own_only h.one ho hs, own_only h.two ho hs, own_only h.three ho hs, h.ap12, h.ap13, h.ap23⟩

theorem SBX9 {W : World} {p : Nat} {cs : Array Value} {T : Nat} (h : Blk W p cs T) : Below 0 W W := Below.refl _ _

theorem al_o9 {s : Nat} {X Y : World} (h : Only s X Y) : ∃ Z, Z = Y := ⟨_, rfl⟩

theorem blk_nums9 {u : World} {g : Nat} {ys : List Int} {T : Nat} {cs : Array Value} (h : Blk u g cs T) (hc : cs = (ys.map (Value.int .i64)).toArray) : ∀ i, i < ys.length → u.cell? ⟨g, i, none⟩ = some (.int .i64 (ys.getD i 0)) := by
  intro i hi
  subst hc
  rw [h.cell i]
  simp [hi]

theorem wf_app9 {xs : List Int} {y : Int} (h : ∀ n ∈ xs, (Lit.int .i64 n).wf = true) (hy : (Lit.int .i64 y).wf = true) : ∀ n ∈ xs ++ [y], (Lit.int .i64 n).wf = true := by
  intro n hn
  rcases List.mem_append.1 hn with c | c
  · exact h n c
  · simp at c; rw [c]; exact hy

/-- The numbers of a drawn signed head. -/
def DrB (z r m k i : Int) : Prop := (-1 ≤ z ∧ z ≤ 65521) ∧ (-1 ≤ r ∧ r ≤ 65521) ∧ (-1 ≤ m ∧ m ≤ 65521) ∧ (-1 ≤ k ∧ k ≤ 65521) ∧ (-1 ≤ i ∧ i ≤ 65521)

/-- The lengths of a drawn signed head's lists. -/
def DrL (sh ot p : List Int) (c3 : Nat) : Prop := sh.length ≤ 16 ∧ ot.length ≤ 16 ∧ p.length ≤ 7 ∧ p.length ≤ c3 ∧ c3 ≤ maxLen

set_option maxHeartbeats 8000000 in
theorem l9BentS_any (w : World) (B s : Nat) (a : Option Addr) (len cap : Nat) (zs : List Int) (t : Nat) (h : SrcAt w B s a len cap zs t) (ht : t ≤ 80000) :
    Calls Tryz.prog 41 #[.pointer (some ⟨s, 0, none⟩)] w fun e w' => ∃ (z r m k i : Int) (a1 a2 a3 : Option Addr) (c1 c2 c3 : Nat) (sh ot p : List Int) (t' : Nat), e = .returned (.agg #[.int .i64 z, .int .i64 r, .int .i64 m, .int .i64 k, .int .i64 i, .slice a1 sh.length c1, .slice a2 ot.length c2, .slice a3 p.length c3]) ∧ DrB z r m k i ∧ DrL sh ot p c3 ∧ H3 w' a1 a2 a3 sh ot p ∧ (∀ y, (a1 = some y ∨ a2 = some y ∨ a3 = some y) → w.heap.size ≤ y.block) ∧ t' ≤ t + 10 ∧ SrcAt w' B s a len cap zs t' ∧ Only s w w' := by
  obtain ⟨i0, hi, hz0, hz1, hz2⟩ := info_parts info64
  have hlt := h.lt
  obtain ⟨V0, hV0⟩ : ∃ V0, V0 = w.heap.size := ⟨_, rfl⟩
  obtain ⟨E, hE⟩ : ∃ E, E = w.alloc (.cells #[.int .i64 0, .int .i64 0, .int .i64 0, .int .i64 0, .int .i64 0, .slice none 0 0, .slice none 0 0, .slice none 0 0] 38) := ⟨_, rfl⟩
  have RE : Blk E V0 #[.int .i64 0, .int .i64 0, .int .i64 0, .int .i64 0, .int .i64 0, .slice none 0 0, .slice none 0 0, .slice none 0 0] 38 := by rw [hE, hV0]; exact Blk.new _ _ _
  have zE : E.heap.size = V0 + 1 := by rw [hE, hV0]; simp
  have SE : SrcAt E B s a len cap zs t := by rw [hE]; exact h.alloc _
  have NE : Only s w E := by rw [hE]; exact (Only.refl _ _).alloc _
  have hsV : s < V0 := by omega
  have vw : w.heap.size ≤ V0 := by omega
  clear h
  go_enter Tryz.func41, Tryz.ntmps41
  go_wp2_with fail
  simp only [← hV0, ← hE]
  clear hE hV0
  refine (next_any _ B s a len cap zs _ 3 SE (by omega) (by omega) (by omega)).mono ?_
  rintro e u1 ⟨q, rfl, q0, q1, S1, Y1⟩
  go_wp2_with fail
  refine (l9Draw_any _ B s a len cap zs _ S1 (by omega)).mono ?_
  rintro e u2 ⟨z, r, m, k, rfl, z0, z1, b0, b1, d0, d1, k0, k1, S2, Y2⟩
  have Y12 := Y1.trans Y2
  have N2 := NE.trans Y12
  have R2 : Blk u2 V0 #[.int .i64 0, .int .i64 0, .int .i64 0, .int .i64 0, .int .i64 0, .slice none 0 0, .slice none 0 0, .slice none 0 0] 38 := RE.fr (M := fun k => s = k) (.of_grown Y12.grown (fun k e => by simpa using e)) (by omega)
  have z2 := R2.lt
  clear S1 Y1 Y2 SE RE NE Y12
  have hB : hdB z r m k = true := hdB_iff.2 (by omega)
  go_wp2_with fail
  refine (l9Sign_any q 5 z r m k _ hB (by omega) (by omega) (by omega)).mono ?_
  rintro e u4 ⟨a1, c1, a2, c2, a3, c3, rfl, O4, hb4⟩
  have l1_ : (shW q k (hdV z r m k) (List.range 16)).length = 16 := by rw [shW_len]; simp
  have l2_ : (otW q k (hdV z r m k) (List.range 16)).length = 16 := by rw [otW_len]; simp
  have w1 := allS_wf (shW_all q k (hdV z r m k) (List.range 16))
  have w2 := allS_wf (otW_all q k (hdV z r m k) (List.range 16))
  have l3_ : (ptM nS 11 (keysL q 5) k).length ≤ 5 := by have := ptM_len nS 11 _ (keysL q 5) k (Nat.le_refl _); have := keysL_len q 5; omega
  have w3 := allS_wf (ptM_all _ (keysL q 5) k (Nat.le_refl _) (keysL_all q 5))
  generalize shW q k (hdV z r m k) (List.range 16) = sh at *
  generalize otW q k (hdV z r m k) (List.range 16) = ot at *
  generalize ptM nS 11 (keysL q 5) k = p at *
  have L1 : Hid (sh.length = 16) := l1_
  have L2 : Hid (ot.length = 16) := l2_
  have L3 : Hid (p.length ≤ 5) := l3_
  obtain ⟨i, hik⟩ : ∃ i, i = k := ⟨_, rfl⟩
  rw [show (#[.int .i64 z, .int .i64 r, .int .i64 m, .int .i64 k, .int .i64 k, .slice a1 sh.length c1, .slice a2 ot.length c2, .slice a3 p.length c3] : Array Value) = #[.int .i64 z, .int .i64 r, .int .i64 m, .int .i64 k, .int .i64 i, .slice a1 sh.length c1, .slice a2 ot.length c2, .slice a3 p.length c3] by rw [hik]]
  have ib : 0 ≤ i ∧ i < 5 := by omega
  have cap3 := Kept9.mk (own_caps9 O4.three)
  obtain ⟨BS, hBS⟩ : ∃ b, b = u2.heap.size := ⟨_, rfl⟩
  rw [← hBS] at O4
  have hbs : w.heap.size ≤ BS := by have := N2.size; omega
  have hV0B : V0 < BS := by omega
  have hsB : s < BS := by omega
  have R4 := R2.below hb4 R2.lt
  have S4 := S2.below' hb4 (by omega)
  have N4 := N2.then_below (hb4.mono (by omega))
  have z4 := hb4.size
  clear R2 S2 N2 hb4 l1_ l2_ l3_ hik hB
  have hBu : BS ≤ u4.heap.size := by omega
  clear hBS
  obtain ⟨F, hF⟩ : ∃ F, F = u4.alloc (.cells #[.int .i64 z, .int .i64 r, .int .i64 m, .int .i64 k, .int .i64 i, .slice a1 sh.length c1, .slice a2 ot.length c2, .slice a3 p.length c3] 38) := ⟨_, rfl⟩
  obtain ⟨V, hV⟩ : ∃ V, V = u4.heap.size := ⟨_, rfl⟩
  have bF : Below u4.heap.size u4 F := by rw [hF]; exact (Below.refl _ _).alloc (Nat.le_refl _) _
  have SF : Blk F V #[.int .i64 z, .int .i64 r, .int .i64 m, .int .i64 k, .int .i64 i, .slice a1 sh.length c1, .slice a2 ot.length c2, .slice a3 p.length c3] 38 := by rw [hF, hV]; exact Blk.new _ _ _
  have RF := R4.below bF R4.lt
  have OF := O4.below bF
  have SrF := S4.below bF
  have NF := N4.then_below (bF.mono (by omega))
  have hVW : V0 ≠ V := by omega
  have hVV : V ≠ V0 := by omega
  have hsV2 : V ≠ s := by omega
  have hBV : BS ≤ V := by omega
  have vb : w.heap.size ≤ V := by omega
  have hle : V0 ≤ V := by omega
  have hVs : s < V := by omega
  have VV : Hid (∀ y, (a1 = some y ∨ a2 = some y ∨ a3 = some y) → V ≠ y.block) := by
    rintro y (e | e | e)
    · have := own_lt9 O4.one y e; omega
    · have := own_lt9 O4.two y e; omega
    · have := own_lt9 O4.three y e; omega
  have VW : Hid (∀ y, (a1 = some y ∨ a2 = some y ∨ a3 = some y) → V0 ≠ y.block) := by
    rintro y (e | e | e)
    · have := own_base O4.one y e; omega
    · have := own_base O4.two y e; omega
    · have := own_base O4.three y e; omega
  have AP : Hid (∀ ad, (a1 = some ad ∨ a2 = some ad) → some ad.block ≠ (Value.slice a3 p.length c3).ownBlock) := by
    rintro ad (e | e) h
    · cases a3 with
      | none => simp [Value.ownBlock] at h
      | some b => have := O4.ap13 ad b e rfl; simp [Value.ownBlock] at h; exact this h
    · cases a3 with
      | none => simp [Value.ownBlock] at h
      | some b => have := O4.ap23 ad b e rfl; simp [Value.ownBlock] at h; exact this h
  have NB : Hid (¬ (Value.slice a3 p.length c3).ownBlock = some V) := fun e => by have := (O4.three.lt V e).2; omega
  have NW : Hid (∀ y, (a1 = some y ∨ a2 = some y ∨ a3 = some y) → w.heap.size ≤ y.block) := by
    rintro y (e | e | e)
    · have := own_base O4.one y e; omega
    · have := own_base O4.two y e; omega
    · have := own_base O4.three y e; omega
  clear R4 O4 S4 N4 bF
  go_wp2_with fail
  simp only [← hV, ← hF]
  clear hF hV
  refine (next_any _ B s a len cap zs _ 12 SrF (by omega) (by omega) (by omega)).mono ?_
  rintro e u5 ⟨q', rfl, q0', q1', S5, Y5⟩
  have f5 : Fr (fun k => s = k) F u5 := (.of_grown Y5.grown (fun k e => by simpa using e))
  have SV := SF.fr f5 (fun e => hsV2 e.symm)
  have RV := RF.fr f5 (by omega)
  have OH := OF.only Y5 (by omega)
  have N5 := NF.trans Y5
  have z5 := SV.lt
  clear f5 SF RF OF SrF NF Y5
  by_cases t0 : q' = 0
  · have t0b : (q' == 0) = true := by simpa using t0
    clear t0
    have PH : Hid (∀ i, i < ([3, 25] : List Int).length → (u5.alloc (.cells #[.int .i64 3, .int .i64 25] 2)).cell? ⟨u5.heap.size, i, none⟩ = some (.int .i64 (([3, 25] : List Int).getD i 0))) := cells_lit u5 [3, 25] 2 _ rfl
    go_wp2_with fail
    refine (pick_any _ B s a len cap zs _ (S5.alloc _) (by omega) u5.heap.size [3, 25] 2 rfl (by simp) (by omega) (by omega) (by omega) 2 PH.out).mono ?_
    rintro e u6 ⟨y, rfl, hp, S6, Y6⟩
    have bl := (Below.refl u5.heap.size u5).alloc (Nat.le_refl _) (.cells #[.int .i64 3, .int .i64 25] 2)
    have f6 : Fr (fun k => s = k) u5 u6 := (Fr.of_below bl (Nat.le_refl _)).trans (.of_grown (w := u5.alloc (.cells #[.int .i64 3, .int .i64 25] 2)) Y6.grown (fun k e => by simpa using e)) (fun k _ e => e)
    replace SV := SV.fr f6 (fun e => hsV2 e.symm)
    replace RV := RV.fr f6 (by omega)
    replace OH := (OH.below bl).only Y6 (by omega)
    have N6 := (N5.alloc (.cells #[.int .i64 3, .int .i64 25] 2)).trans Y6
    clear S5 Y6 f6 N5 PH bl
    have m0 : u6.cell? ⟨V, 0, none⟩ = some (.int .i64 z) := (SV.cell 0).trans rfl
    have m1 : u6.cell? ⟨V, 1, none⟩ = some (.int .i64 r) := (SV.cell 1).trans rfl
    have m2 : u6.cell? ⟨V, 2, none⟩ = some (.int .i64 m) := (SV.cell 2).trans rfl
    have m3 : u6.cell? ⟨V, 3, none⟩ = some (.int .i64 k) := (SV.cell 3).trans rfl
    have m4 : u6.cell? ⟨V, 4, none⟩ = some (.int .i64 i) := (SV.cell 4).trans rfl
    have m5 : u6.cell? ⟨V, 5, none⟩ = some (.slice a1 sh.length c1) := (SV.cell 5).trans rfl
    have m6 : u6.cell? ⟨V, 6, none⟩ = some (.slice a2 ot.length c2) := (SV.cell 6).trans rfl
    have m7 : u6.cell? ⟨V, 7, none⟩ = some (.slice a3 p.length c3) := (SV.cell 7).trans rfl
    have f0 := SV.frozen 0
    have f1 := SV.frozen 1
    have f4 := SV.frozen 4
    have f7 := SV.frozen 7
    have r0 : u6.cell? ⟨V0, 0, none⟩ = some (.int .i64 0) := (RV.cell 0).trans rfl
    have r1 : u6.cell? ⟨V0, 1, none⟩ = some (.int .i64 0) := (RV.cell 1).trans rfl
    have r2 : u6.cell? ⟨V0, 2, none⟩ = some (.int .i64 0) := (RV.cell 2).trans rfl
    have r3 : u6.cell? ⟨V0, 3, none⟩ = some (.int .i64 0) := (RV.cell 3).trans rfl
    have r4 : u6.cell? ⟨V0, 4, none⟩ = some (.int .i64 0) := (RV.cell 4).trans rfl
    have r5 : u6.cell? ⟨V0, 5, none⟩ = some (.slice none 0 0) := (RV.cell 5).trans rfl
    have r6 : u6.cell? ⟨V0, 6, none⟩ = some (.slice none 0 0) := (RV.cell 6).trans rfl
    have r7 : u6.cell? ⟨V0, 7, none⟩ = some (.slice none 0 0) := (RV.cell 7).trans rfl
    have e0 := RV.frozen 0
    have e1 := RV.frozen 1
    have e2 := RV.frozen 2
    have e3 := RV.frozen 3
    have e4 := RV.frozen 4
    have e5 := RV.frozen 5
    have e6 := RV.frozen 6
    have e7 := RV.frozen 7
    have hp' : 0 ≤ y ∧ y ≤ 25 := by simp at hp; omega
    have HH := H3.mk (has_of_own OH.one w1) (has_of_own OH.two w2) (has_of_own OH.three w3)
    have BB : Hid (∀ (x x0 x1 x2 x3 x4 x5 x6 x7 : Value), Below V0 u6 (((((((((u6.setCell ⟨V, 0, none⟩ x).setCell ⟨V0, 0, none⟩ x0).setCell ⟨V0, 1, none⟩ x1).setCell ⟨V0, 2, none⟩ x2).setCell ⟨V0, 3, none⟩ x3).setCell ⟨V0, 4, none⟩ x4).setCell ⟨V0, 5, none⟩ x5).setCell ⟨V0, 6, none⟩ x6).setCell ⟨V0, 7, none⟩ x7)) := fun _ _ _ _ _ _ _ _ _ => below8 ((Below.refl V0 u6).setCell (p := ⟨V, 0, none⟩) hle _) (Nat.le_refl _) _ _ _ _ _ _ _ _
    have NN : Hid (∀ (x x0 x1 x2 x3 x4 x5 x6 x7 : Value), Only s w (((((((((u6.setCell ⟨V, 0, none⟩ x).setCell ⟨V0, 0, none⟩ x0).setCell ⟨V0, 1, none⟩ x1).setCell ⟨V0, 2, none⟩ x2).setCell ⟨V0, 3, none⟩ x3).setCell ⟨V0, 4, none⟩ x4).setCell ⟨V0, 5, none⟩ x5).setCell ⟨V0, 6, none⟩ x6).setCell ⟨V0, 7, none⟩ x7)) := fun _ _ _ _ _ _ _ _ _ => only8 (N6.storeNew vb _) vw _ _ _ _ _ _ _ _
    have HD : Hid (∀ (x x0 x1 x2 x3 x4 x5 x6 x7 : Value), H3 (((((((((u6.setCell ⟨V, 0, none⟩ x).setCell ⟨V0, 0, none⟩ x0).setCell ⟨V0, 1, none⟩ x1).setCell ⟨V0, 2, none⟩ x2).setCell ⟨V0, 3, none⟩ x3).setCell ⟨V0, 4, none⟩ x4).setCell ⟨V0, 5, none⟩ x5).setCell ⟨V0, 6, none⟩ x6).setCell ⟨V0, 7, none⟩ x7) a1 a2 a3 sh ot p) := fun _ _ _ _ _ _ _ _ _ => (HH.set VV.out 0 _).set8 VW.out _ _ _ _ _ _ _ _
    clear SV RV hp N6 OH HH w1 w2 w3
    go_wp2
    obtain ⟨tq, htq, SQ⟩ : ∃ t', t' ≤ t + 10 ∧ SrcAt u6 B s a len cap zs t' := ⟨_, by omega, S6⟩
    refine bodyPost_ret (v := .agg #[.int .i64 y, .int .i64 r, .int .i64 m, .int .i64 k, .int .i64 i, .slice a1 sh.length c1, .slice a2 ot.length c2, .slice a3 p.length c3]) (by simp [results, Tryz.results41, go_sem, r0, r1, r2, r3, r4, r5, r6, r7, hVV, hVW]) rfl ⟨y, r, m, k, i, a1, a2, a3, c1, c2, c3, sh, ot, p, tq, rfl, ?_, ?_, ?_, ?_, htq, ?_, ?_⟩
    · exact ⟨by omega, by omega, by omega, by omega, by omega⟩
    · exact ⟨Nat.le_of_eq L1.out, Nat.le_of_eq L2.out, by have := L3.out; omega, cap3.out.1, cap3.out.2⟩
    · exact HD.out _ _ _ _ _ _ _ _ _
    · exact NW.out
    · exact SQ.below' (N := V0) (BB.out _ _ _ _ _ _ _ _ _) hsV
    · exact NN.out _ _ _ _ _ _ _ _ _
  · have t0b : (q' == 0) = false := by simpa using t0
    clear t0
    by_cases t1 : q' = 1
    · have t1b : (q' == 1) = true := by simpa using t1
      clear t1
      have PH : Hid (∀ i, i < ([0, 1, 8] : List Int).length → (u5.alloc (.cells #[.int .i64 0, .int .i64 1, .int .i64 8] 2)).cell? ⟨u5.heap.size, i, none⟩ = some (.int .i64 (([0, 1, 8] : List Int).getD i 0))) := cells_lit u5 [0, 1, 8] 2 _ rfl
      go_wp2_with fail
      refine (pick_any _ B s a len cap zs _ (S5.alloc _) (by omega) u5.heap.size [0, 1, 8] 3 rfl (by simp) (by omega) (by omega) (by omega) 3 PH.out).mono ?_
      rintro e u6 ⟨y, rfl, hp, S6, Y6⟩
      have bl := (Below.refl u5.heap.size u5).alloc (Nat.le_refl _) (.cells #[.int .i64 0, .int .i64 1, .int .i64 8] 2)
      have f6 : Fr (fun k => s = k) u5 u6 := (Fr.of_below bl (Nat.le_refl _)).trans (.of_grown (w := u5.alloc (.cells #[.int .i64 0, .int .i64 1, .int .i64 8] 2)) Y6.grown (fun k e => by simpa using e)) (fun k _ e => e)
      replace SV := SV.fr f6 (fun e => hsV2 e.symm)
      replace RV := RV.fr f6 (by omega)
      replace OH := (OH.below bl).only Y6 (by omega)
      have N6 := (N5.alloc (.cells #[.int .i64 0, .int .i64 1, .int .i64 8] 2)).trans Y6
      clear S5 Y6 f6 N5 PH bl
      have m0 : u6.cell? ⟨V, 0, none⟩ = some (.int .i64 z) := (SV.cell 0).trans rfl
      have m1 : u6.cell? ⟨V, 1, none⟩ = some (.int .i64 r) := (SV.cell 1).trans rfl
      have m2 : u6.cell? ⟨V, 2, none⟩ = some (.int .i64 m) := (SV.cell 2).trans rfl
      have m3 : u6.cell? ⟨V, 3, none⟩ = some (.int .i64 k) := (SV.cell 3).trans rfl
      have m4 : u6.cell? ⟨V, 4, none⟩ = some (.int .i64 i) := (SV.cell 4).trans rfl
      have m5 : u6.cell? ⟨V, 5, none⟩ = some (.slice a1 sh.length c1) := (SV.cell 5).trans rfl
      have m6 : u6.cell? ⟨V, 6, none⟩ = some (.slice a2 ot.length c2) := (SV.cell 6).trans rfl
      have m7 : u6.cell? ⟨V, 7, none⟩ = some (.slice a3 p.length c3) := (SV.cell 7).trans rfl
      have f0 := SV.frozen 0
      have f1 := SV.frozen 1
      have f4 := SV.frozen 4
      have f7 := SV.frozen 7
      have r0 : u6.cell? ⟨V0, 0, none⟩ = some (.int .i64 0) := (RV.cell 0).trans rfl
      have r1 : u6.cell? ⟨V0, 1, none⟩ = some (.int .i64 0) := (RV.cell 1).trans rfl
      have r2 : u6.cell? ⟨V0, 2, none⟩ = some (.int .i64 0) := (RV.cell 2).trans rfl
      have r3 : u6.cell? ⟨V0, 3, none⟩ = some (.int .i64 0) := (RV.cell 3).trans rfl
      have r4 : u6.cell? ⟨V0, 4, none⟩ = some (.int .i64 0) := (RV.cell 4).trans rfl
      have r5 : u6.cell? ⟨V0, 5, none⟩ = some (.slice none 0 0) := (RV.cell 5).trans rfl
      have r6 : u6.cell? ⟨V0, 6, none⟩ = some (.slice none 0 0) := (RV.cell 6).trans rfl
      have r7 : u6.cell? ⟨V0, 7, none⟩ = some (.slice none 0 0) := (RV.cell 7).trans rfl
      have e0 := RV.frozen 0
      have e1 := RV.frozen 1
      have e2 := RV.frozen 2
      have e3 := RV.frozen 3
      have e4 := RV.frozen 4
      have e5 := RV.frozen 5
      have e6 := RV.frozen 6
      have e7 := RV.frozen 7
      have hp' : 0 ≤ y ∧ y ≤ 8 := by simp at hp; omega
      have HH := H3.mk (has_of_own OH.one w1) (has_of_own OH.two w2) (has_of_own OH.three w3)
      have BB : Hid (∀ (x x0 x1 x2 x3 x4 x5 x6 x7 : Value), Below V0 u6 (((((((((u6.setCell ⟨V, 4, none⟩ x).setCell ⟨V0, 0, none⟩ x0).setCell ⟨V0, 1, none⟩ x1).setCell ⟨V0, 2, none⟩ x2).setCell ⟨V0, 3, none⟩ x3).setCell ⟨V0, 4, none⟩ x4).setCell ⟨V0, 5, none⟩ x5).setCell ⟨V0, 6, none⟩ x6).setCell ⟨V0, 7, none⟩ x7)) := fun _ _ _ _ _ _ _ _ _ => below8 ((Below.refl V0 u6).setCell (p := ⟨V, 4, none⟩) hle _) (Nat.le_refl _) _ _ _ _ _ _ _ _
      have NN : Hid (∀ (x x0 x1 x2 x3 x4 x5 x6 x7 : Value), Only s w (((((((((u6.setCell ⟨V, 4, none⟩ x).setCell ⟨V0, 0, none⟩ x0).setCell ⟨V0, 1, none⟩ x1).setCell ⟨V0, 2, none⟩ x2).setCell ⟨V0, 3, none⟩ x3).setCell ⟨V0, 4, none⟩ x4).setCell ⟨V0, 5, none⟩ x5).setCell ⟨V0, 6, none⟩ x6).setCell ⟨V0, 7, none⟩ x7)) := fun _ _ _ _ _ _ _ _ _ => only8 (N6.storeNew vb _) vw _ _ _ _ _ _ _ _
      have HD : Hid (∀ (x x0 x1 x2 x3 x4 x5 x6 x7 : Value), H3 (((((((((u6.setCell ⟨V, 4, none⟩ x).setCell ⟨V0, 0, none⟩ x0).setCell ⟨V0, 1, none⟩ x1).setCell ⟨V0, 2, none⟩ x2).setCell ⟨V0, 3, none⟩ x3).setCell ⟨V0, 4, none⟩ x4).setCell ⟨V0, 5, none⟩ x5).setCell ⟨V0, 6, none⟩ x6).setCell ⟨V0, 7, none⟩ x7) a1 a2 a3 sh ot p) := fun _ _ _ _ _ _ _ _ _ => (HH.set VV.out 4 _).set8 VW.out _ _ _ _ _ _ _ _
      clear SV RV hp N6 OH HH w1 w2 w3
      go_wp2
      obtain ⟨tq, htq, SQ⟩ : ∃ t', t' ≤ t + 10 ∧ SrcAt u6 B s a len cap zs t' := ⟨_, by omega, S6⟩
      refine bodyPost_ret (v := .agg #[.int .i64 z, .int .i64 r, .int .i64 m, .int .i64 k, .int .i64 y, .slice a1 sh.length c1, .slice a2 ot.length c2, .slice a3 p.length c3]) (by simp [results, Tryz.results41, go_sem, r0, r1, r2, r3, r4, r5, r6, r7, hVV, hVW]) rfl ⟨z, r, m, k, y, a1, a2, a3, c1, c2, c3, sh, ot, p, tq, rfl, ?_, ?_, ?_, ?_, htq, ?_, ?_⟩
      · exact ⟨by omega, by omega, by omega, by omega, by omega⟩
      · exact ⟨Nat.le_of_eq L1.out, Nat.le_of_eq L2.out, by have := L3.out; omega, cap3.out.1, cap3.out.2⟩
      · exact HD.out _ _ _ _ _ _ _ _ _
      · exact NW.out
      · exact SQ.below' (N := V0) (BB.out _ _ _ _ _ _ _ _ _) hsV
      · exact NN.out _ _ _ _ _ _ _ _ _
    · have t1b : (q' == 1) = false := by simpa using t1
      clear t1
      by_cases t2 : q' = 2
      · have t2b : (q' == 2) = true := by simpa using t2
        clear t2
        have hsV0 : s ≠ V0 := by omega
        go_wp2_with fail
        refine wp_region_noPanic ?_
        refine wp_region_held_drew (S := fun u => Blk u V0 #[.int .i64 0, .int .i64 0, .int .i64 0, .int .i64 0, .int .i64 0, .slice none 0 0, .slice none 0 0, .slice none 0 0] 38) (by kernel_rfl) (RV.below (Below.refl _ _).drew RV.lt) (fun hs => ?_)
        have FF : Only s u5 u5.drew := Only.of_below (Below.refl _ _).drew
        have SS := S5.below ((Below.refl _ _).drew)
        replace SV := SV.below ((Below.refl _ _).drew) SV.lt
        replace OH := OH.below ((Below.refl _ _).drew)
        obtain ⟨XD, hXD⟩ : ∃ Z, Z = u5.drew := ⟨_, rfl⟩
        rw [← hXD] at hs FF SS SV OH
        simp only [← hXD]
        clear hXD
        refine take_at (i := 0) (d := some 27) (v := ?mv1) rfl rfl (by kernel_rfl) (by kernel_rfl) (by kernel_rfl) (fun _ _ _ h => h) (Or.inl ⟨by rfl, ?my1⟩) hs ?mg1
        case my1 => (intro z hSz; skip; go_simp; (try with_reducible rfl))
        try simp only [Act.put, List.setIfInBounds_toArray, List.set_cons_zero, List.set_cons_succ]
        refine take_at (i := 2) (d := some 29) (v := ?mv2) rfl rfl (by kernel_rfl) (by kernel_rfl) (by kernel_rfl) (fun _ _ _ h => h) (Or.inl ⟨by rfl, ?my2⟩) hs ?mg2
        case my2 => (intro z hSz; skip; go_simp; (try with_reducible rfl))
        try simp only [Act.put, List.setIfInBounds_toArray, List.set_cons_zero, List.set_cons_succ]
        refine wpAnyH_ready (rs := [1, 3]) (by kernel_rfl) (by simp) ?_
        refine AllReadyH.cons rfl (fun K' hK' => ?_) (AllReadyH.cons rfl (fun K' hK' => ?_) AllReadyH.nil)
        · have l7 := SV.cell 7
          simp at l7
          go_simp
          refine hK'.out _ _ hs (fun hs => ?_)
          clear hK' K'
          try simp only [Act.put, List.setIfInBounds_toArray, List.set_cons_zero, List.set_cons_succ]
          clear l7
          refine wpAnyH_ready (rs := [3]) (by kernel_rfl) (by simp) ?_
          refine AllReadyH.cons rfl (fun K' hK' => ?_) AllReadyH.nil
          have nG := SV.lt
          go_simp
          refine hK'.out _ _ (hs.below ((Below.refl _ _).alloc (Nat.le_refl _) _) hs.lt) (fun hs => ?_)
          clear hK' K'
          try simp only [Act.put, List.setIfInBounds_toArray, List.set_cons_zero, List.set_cons_succ]
          have PB := al_blk (SBX9 hs)
          replace SV := al_keep (SBX9 hs) SV
          replace OH := OH.below ((Below.refl _ _).alloc (Nat.le_refl _) (.cells #[.int .i64 5, .int .i64 (-1)] 2))
          replace FF := FF.alloc (.cells #[.int .i64 5, .int .i64 (-1)] 2)
          replace SS := SS.alloc (.cells #[.int .i64 5, .int .i64 (-1)] 2)
          obtain ⟨A6, h6⟩ := al_o9 FF
          rw [← h6] at hs PB FF SS SV OH
          simp only [← h6]
          clear h6
          obtain ⟨G, hG⟩ := al_b PB
          rw [← hG] at PB nG
          simp only [← hG]
          clear hG
          have gs : G ≠ s := by omega
          refine wpAnyH_ready (rs := [4]) (by kernel_rfl) (by simp) ?_
          refine AllReadyH.cons rfl (fun K' hK' => ?_) AllReadyH.nil
          go_simp
          refine (pick_any _ B s a len cap zs _ SS (by omega) G [5, -1] 2 rfl PB.lt gs (by omega) (by omega) 2 (blk_nums9 PB rfl)).mono ?_
          rintro _ uc ⟨y, rfl, hp, SA, Ya⟩
          refine hK'.out _ _ (hs.fr (M := fun k => s = k) (.of_grown Ya.grown (fun k e => by simpa using e)) hsV0) (fun hs => ?_)
          clear hK' K'
          try simp only [Act.put, List.setIfInBounds_toArray, List.set_cons_zero, List.set_cons_succ]
          replace FF := FF.trans Ya
          replace SV := SV.fr (M := fun k => s = k) (.of_grown Ya.grown (fun k e => by simpa using e)) (fun e => hsV2 e.symm)
          replace OH := OH.only Ya hsB
          clear SS PB
          have SS := SA
          clear SA Ya
          have hp' : -1 ≤ y ∧ y ≤ 5 := by simp at hp; omega
          clear hp
          refine wpAnyH_ready (rs := [5]) (by kernel_rfl) (by simp) ?_
          refine AllReadyH.cons rfl (fun K' hK' => ?_) AllReadyH.nil
          have nH := SV.lt
          go_simp
          refine hK'.out _ _ (hs.below ((Below.refl _ _).alloc (Nat.le_refl _) _) hs.lt) (fun hs => ?_)
          clear hK' K'
          try simp only [Act.put, List.setIfInBounds_toArray, List.set_cons_zero, List.set_cons_succ]
          have PC := al_blk (SBX9 hs)
          replace SV := al_keep (SBX9 hs) SV
          replace OH := OH.below ((Below.refl _ _).alloc (Nat.le_refl _) (.cells #[.int .i64 y] 2))
          replace FF := FF.alloc (.cells #[.int .i64 y] 2)
          replace SS := SS.alloc (.cells #[.int .i64 y] 2)
          obtain ⟨A6, h6⟩ := al_o9 FF
          rw [← h6] at hs PC FF SS SV OH
          simp only [← h6]
          clear h6
          obtain ⟨G2, hG⟩ := al_b PC
          rw [← hG] at PC nH
          simp only [← hG]
          clear hG
          refine wpAnyH_ready (rs := [6]) (by kernel_rfl) (by simp) ?_
          refine AllReadyH.cons rfl (fun K' hK' => ?_) AllReadyH.nil
          refine step_app1 rfl _ _ 34 rfl BS 2 i0 Tryz.underlying34 hi hz0 hz1 hz2 (.slice a3 p.length c3) p.length (p.map (.int .i64)) rfl OH.three G2 1 y rfl (by have := PC.cell 0; simpa using this) (by have := L3.out; omega) (Nat.le_of_lt (Nat.lt_of_le_of_lt hBV SV.lt)) ?_
          intro g' c' w3' hown hgrow hnew
          have nV0 : ¬ (Value.slice a3 p.length c3).ownBlock = some V0 := fun e => by have := (OH.three.lt V0 e).1; omega
          have nV : ¬ (Value.slice a3 p.length c3).ownBlock = some V := fun e => NB.out e
          have uz := SV.lt
          refine hK'.out _ _ (hs.fr (M := fun q => (Value.slice a3 p.length c3).ownBlock = some q) (.of_grown hgrow (fun q e => e)) nV0) (fun hs => ?_)
          clear hK' K'
          try simp only [Act.put, List.setIfInBounds_toArray, List.set_cons_zero, List.set_cons_succ]
          have SV3 := SV.fr (M := fun q => (Value.slice a3 p.length c3).ownBlock = some q) (.of_grown hgrow (fun q e => e)) nV
          have k7 := SV3.cell 7
          have f7 := SV3.frozen 7
          simp at k7
          refine take_at (i := 7) (d := some 34) (v := ?mv3) rfl rfl (by kernel_rfl) (by kernel_rfl) (by kernel_rfl) (fun _ _ _ h => h) (Or.inl ⟨by rfl, ?my3⟩) hs ?mg3
          case my3 => (intro z hSz; skip; go_simp; (try with_reducible rfl))
          try simp only [Act.put, List.setIfInBounds_toArray, List.set_cons_zero, List.set_cons_succ]
          refine wpAnyH_ready (rs := [8]) (by kernel_rfl) (by simp) ?_
          refine AllReadyH.cons rfl (fun K' hK' => ?_) AllReadyH.nil
          go_simp
          refine hK'.out _ _ (hs.fr (M := fun q => q = V) (Fr.setCell (Fr.refl _ _) ⟨V, 7, none⟩ (.slice (some ⟨g', 0, none⟩) (p.length + 1) c') rfl) hVW) (fun hs => ?_)
          clear hK' K'
          try simp only [Act.put, List.setIfInBounds_toArray, List.set_cons_zero, List.set_cons_succ]
          refine wpAnyH_done (by kernel_rfl) (NoPanic.normal ?_) _
          have eL : p.map (Value.int .i64) ++ [.int .i64 y] = (p ++ [y]).map (.int .i64) := by simp
          rw [eL] at hown
          have wy : (Lit.int .i64 y).wf = true := WalkArith.wf_i64 (by omega)
          have hg' : w.heap.size ≤ g' ∧ V ≠ g' ∧ V0 ≠ g' := by
            rcases hnew with e | e
            · have e' : (Value.slice a3 p.length c3).ownBlock = some g' := e.symm
              have := OH.three.lt g' e'
              exact ⟨by omega, fun x => NB.out (by rw [x]; exact e'), by omega⟩
            · have e' : g' = A6.heap.size := Option.some.inj e
              omega
          have w3 := wf_app9 w3 wy
          have HH := H3.mk ((has_of_own OH.one w1).grown hgrow (fun ad e => AP.out ad (.inl e))) ((has_of_own OH.two w2).grown hgrow (fun ad e => AP.out ad (.inr e))) (has_of_own hown w3)
          have cpX := Kept9.mk (own_caps9 hown)
          have bg : Below V0 A6 w3' := (Below.refl _ _).grown hgrow (by omega) (fun q e => by have := (OH.three.lt q e).1; omega)
          have S6 := SS.below' bg hsV
          have N6 := (N5.trans FF).then_below (bg.mono vw)
          have VV' : Hid (∀ y, (a1 = some y ∨ a2 = some y ∨ some (⟨g', 0, none⟩ : Addr) = some y) → V ≠ y.block) := by
            rintro y (e | e | e)
            · exact VV.out y (.inl e)
            · exact VV.out y (.inr (.inl e))
            · cases e; exact hg'.2.1
          have VW' : Hid (∀ y, (a1 = some y ∨ a2 = some y ∨ some (⟨g', 0, none⟩ : Addr) = some y) → V0 ≠ y.block) := by
            rintro y (e | e | e)
            · exact VW.out y (.inl e)
            · exact VW.out y (.inr (.inl e))
            · cases e; exact hg'.2.2
          have NW' : Hid (∀ y, (a1 = some y ∨ a2 = some y ∨ some (⟨g', 0, none⟩ : Addr) = some y) → w.heap.size ≤ y.block) := by
            rintro y (e | e | e)
            · exact NW.out y (.inl e)
            · exact NW.out y (.inr (.inl e))
            · cases e; exact hg'.1
          replace RV := hs
          replace HH := HH.set VV'.out 7 (.slice (some ⟨g', 0, none⟩) (p.length + 1) c')
          replace N6 := N6.storeNew (b := V) (o := 7) vb (.slice (some ⟨g', 0, none⟩) (p.length + 1) c')
          replace S6 := S6.below' (N := V0) ((Below.refl V0 w3').setCell (p := ⟨V, 7, none⟩) hle (.slice (some ⟨g', 0, none⟩) (p.length + 1) c')) hsV
          replace SV := SV3.set 7 (.slice (some ⟨g', 0, none⟩) (p.length + 1) c')
          obtain ⟨X, hX⟩ := al_w (SBX9 hs)
          rw [← hX] at RV HH N6 S6 SV hs
          simp only [← hX]
          clear hX
          have m0 : X.cell? ⟨V, 0, none⟩ = some (.int .i64 z) := (SV.cell 0).trans rfl
          have m1 : X.cell? ⟨V, 1, none⟩ = some (.int .i64 r) := (SV.cell 1).trans rfl
          have m2 : X.cell? ⟨V, 2, none⟩ = some (.int .i64 m) := (SV.cell 2).trans rfl
          have m3 : X.cell? ⟨V, 3, none⟩ = some (.int .i64 k) := (SV.cell 3).trans rfl
          have m4 : X.cell? ⟨V, 4, none⟩ = some (.int .i64 i) := (SV.cell 4).trans rfl
          have m5 : X.cell? ⟨V, 5, none⟩ = some (.slice a1 sh.length c1) := (SV.cell 5).trans rfl
          have m6 : X.cell? ⟨V, 6, none⟩ = some (.slice a2 ot.length c2) := (SV.cell 6).trans rfl
          have m7 : X.cell? ⟨V, 7, none⟩ = some (.slice (some ⟨g', 0, none⟩) (p.length + 1) c') := (SV.cell 7).trans rfl
          have f0 := SV.frozen 0
          have f1 := SV.frozen 1
          have f4 := SV.frozen 4
          have f7 := SV.frozen 7
          have r0 : X.cell? ⟨V0, 0, none⟩ = some (.int .i64 0) := (RV.cell 0).trans rfl
          have r1 : X.cell? ⟨V0, 1, none⟩ = some (.int .i64 0) := (RV.cell 1).trans rfl
          have r2 : X.cell? ⟨V0, 2, none⟩ = some (.int .i64 0) := (RV.cell 2).trans rfl
          have r3 : X.cell? ⟨V0, 3, none⟩ = some (.int .i64 0) := (RV.cell 3).trans rfl
          have r4 : X.cell? ⟨V0, 4, none⟩ = some (.int .i64 0) := (RV.cell 4).trans rfl
          have r5 : X.cell? ⟨V0, 5, none⟩ = some (.slice none 0 0) := (RV.cell 5).trans rfl
          have r6 : X.cell? ⟨V0, 6, none⟩ = some (.slice none 0 0) := (RV.cell 6).trans rfl
          have r7 : X.cell? ⟨V0, 7, none⟩ = some (.slice none 0 0) := (RV.cell 7).trans rfl
          have e0 := RV.frozen 0
          have e1 := RV.frozen 1
          have e2 := RV.frozen 2
          have e3 := RV.frozen 3
          have e4 := RV.frozen 4
          have e5 := RV.frozen 5
          have e6 := RV.frozen 6
          have e7 := RV.frozen 7
          have HD := Kept9.mk (HH.set8 VW'.out)
          have BB := Kept9.mk (below8 (Below.refl V0 X) (Nat.le_refl V0))
          have NN := Kept9.mk (only8 N6 vw)
          clear SV RV N6 OH HH w1 w2 w3 hs FF SS SV3 hown hgrow hnew k7 f7 PC eL wy bg N5 S5 nV nV0
          go_wp2
          obtain ⟨tq, htq, SQ⟩ : ∃ t', t' ≤ t + 10 ∧ SrcAt X B s a len cap zs t' := ⟨_, by omega, S6⟩
          refine bodyPost_ret (v := .agg #[.int .i64 z, .int .i64 r, .int .i64 m, .int .i64 k, .int .i64 i, .slice a1 sh.length c1, .slice a2 ot.length c2, .slice (some (⟨g', 0, none⟩ : Addr)) (p ++ [y]).length c']) (by simp [results, Tryz.results41, go_sem, r0, r1, r2, r3, r4, r5, r6, r7, hVV, hVW]) rfl ⟨z, r, m, k, i, a1, a2, (some (⟨g', 0, none⟩ : Addr)), c1, c2, c', sh, ot, (p ++ [y]), tq, rfl, ?_, ?_, ?_, ?_, htq, ?_, ?_⟩
          · exact ⟨by omega, by omega, by omega, by omega, by omega⟩
          · exact ⟨Nat.le_of_eq L1.out, Nat.le_of_eq L2.out, by have := L3.out; simp; omega, by have := cpX.out.1; simp; omega, cpX.out.2⟩
          · exact HD.out _ _ _ _ _ _ _ _
          · exact NW'.out
          · exact SQ.below' (N := V0) (BB.out _ _ _ _ _ _ _ _) hsV
          · exact NN.out _ _ _ _ _ _ _ _
        · have nG := SV.lt
          go_simp
          refine hK'.out _ _ (hs.below ((Below.refl _ _).alloc (Nat.le_refl _) _) hs.lt) (fun hs => ?_)
          clear hK' K'
          try simp only [Act.put, List.setIfInBounds_toArray, List.set_cons_zero, List.set_cons_succ]
          have PB := al_blk (SBX9 hs)
          replace SV := al_keep (SBX9 hs) SV
          replace OH := OH.below ((Below.refl _ _).alloc (Nat.le_refl _) (.cells #[.int .i64 5, .int .i64 (-1)] 2))
          replace FF := FF.alloc (.cells #[.int .i64 5, .int .i64 (-1)] 2)
          replace SS := SS.alloc (.cells #[.int .i64 5, .int .i64 (-1)] 2)
          obtain ⟨A6, h6⟩ := al_o9 FF
          rw [← h6] at hs PB FF SS SV OH
          simp only [← h6]
          clear h6
          obtain ⟨G, hG⟩ := al_b PB
          rw [← hG] at PB nG
          simp only [← hG]
          clear hG
          have gs : G ≠ s := by omega
          refine wpAnyH_ready (rs := [1, 4]) (by kernel_rfl) (by simp) ?_
          refine AllReadyH.cons rfl (fun K' hK' => ?_) (AllReadyH.cons rfl (fun K' hK' => ?_) AllReadyH.nil)
          · have l7 := SV.cell 7
            simp at l7
            go_simp
            refine hK'.out _ _ hs (fun hs => ?_)
            clear hK' K'
            try simp only [Act.put, List.setIfInBounds_toArray, List.set_cons_zero, List.set_cons_succ]
            clear l7
            refine wpAnyH_ready (rs := [4]) (by kernel_rfl) (by simp) ?_
            refine AllReadyH.cons rfl (fun K' hK' => ?_) AllReadyH.nil
            go_simp
            refine (pick_any _ B s a len cap zs _ SS (by omega) G [5, -1] 2 rfl PB.lt gs (by omega) (by omega) 2 (blk_nums9 PB rfl)).mono ?_
            rintro _ uc ⟨y, rfl, hp, SA, Ya⟩
            refine hK'.out _ _ (hs.fr (M := fun k => s = k) (.of_grown Ya.grown (fun k e => by simpa using e)) hsV0) (fun hs => ?_)
            clear hK' K'
            try simp only [Act.put, List.setIfInBounds_toArray, List.set_cons_zero, List.set_cons_succ]
            replace FF := FF.trans Ya
            replace SV := SV.fr (M := fun k => s = k) (.of_grown Ya.grown (fun k e => by simpa using e)) (fun e => hsV2 e.symm)
            replace OH := OH.only Ya hsB
            clear SS PB
            have SS := SA
            clear SA Ya
            have hp' : -1 ≤ y ∧ y ≤ 5 := by simp at hp; omega
            clear hp
            refine wpAnyH_ready (rs := [5]) (by kernel_rfl) (by simp) ?_
            refine AllReadyH.cons rfl (fun K' hK' => ?_) AllReadyH.nil
            have nH := SV.lt
            go_simp
            refine hK'.out _ _ (hs.below ((Below.refl _ _).alloc (Nat.le_refl _) _) hs.lt) (fun hs => ?_)
            clear hK' K'
            try simp only [Act.put, List.setIfInBounds_toArray, List.set_cons_zero, List.set_cons_succ]
            have PC := al_blk (SBX9 hs)
            replace SV := al_keep (SBX9 hs) SV
            replace OH := OH.below ((Below.refl _ _).alloc (Nat.le_refl _) (.cells #[.int .i64 y] 2))
            replace FF := FF.alloc (.cells #[.int .i64 y] 2)
            replace SS := SS.alloc (.cells #[.int .i64 y] 2)
            obtain ⟨A6, h6⟩ := al_o9 FF
            rw [← h6] at hs PC FF SS SV OH
            simp only [← h6]
            clear h6
            obtain ⟨G2, hG⟩ := al_b PC
            rw [← hG] at PC nH
            simp only [← hG]
            clear hG
            refine wpAnyH_ready (rs := [6]) (by kernel_rfl) (by simp) ?_
            refine AllReadyH.cons rfl (fun K' hK' => ?_) AllReadyH.nil
            refine step_app1 rfl _ _ 34 rfl BS 2 i0 Tryz.underlying34 hi hz0 hz1 hz2 (.slice a3 p.length c3) p.length (p.map (.int .i64)) rfl OH.three G2 1 y rfl (by have := PC.cell 0; simpa using this) (by have := L3.out; omega) (Nat.le_of_lt (Nat.lt_of_le_of_lt hBV SV.lt)) ?_
            intro g' c' w3' hown hgrow hnew
            have nV0 : ¬ (Value.slice a3 p.length c3).ownBlock = some V0 := fun e => by have := (OH.three.lt V0 e).1; omega
            have nV : ¬ (Value.slice a3 p.length c3).ownBlock = some V := fun e => NB.out e
            have uz := SV.lt
            refine hK'.out _ _ (hs.fr (M := fun q => (Value.slice a3 p.length c3).ownBlock = some q) (.of_grown hgrow (fun q e => e)) nV0) (fun hs => ?_)
            clear hK' K'
            try simp only [Act.put, List.setIfInBounds_toArray, List.set_cons_zero, List.set_cons_succ]
            have SV3 := SV.fr (M := fun q => (Value.slice a3 p.length c3).ownBlock = some q) (.of_grown hgrow (fun q e => e)) nV
            have k7 := SV3.cell 7
            have f7 := SV3.frozen 7
            simp at k7
            refine take_at (i := 7) (d := some 34) (v := ?mv4) rfl rfl (by kernel_rfl) (by kernel_rfl) (by kernel_rfl) (fun _ _ _ h => h) (Or.inl ⟨by rfl, ?my4⟩) hs ?mg4
            case my4 => (intro z hSz; skip; go_simp; (try with_reducible rfl))
            try simp only [Act.put, List.setIfInBounds_toArray, List.set_cons_zero, List.set_cons_succ]
            refine wpAnyH_ready (rs := [8]) (by kernel_rfl) (by simp) ?_
            refine AllReadyH.cons rfl (fun K' hK' => ?_) AllReadyH.nil
            go_simp
            refine hK'.out _ _ (hs.fr (M := fun q => q = V) (Fr.setCell (Fr.refl _ _) ⟨V, 7, none⟩ (.slice (some ⟨g', 0, none⟩) (p.length + 1) c') rfl) hVW) (fun hs => ?_)
            clear hK' K'
            try simp only [Act.put, List.setIfInBounds_toArray, List.set_cons_zero, List.set_cons_succ]
            refine wpAnyH_done (by kernel_rfl) (NoPanic.normal ?_) _
            have eL : p.map (Value.int .i64) ++ [.int .i64 y] = (p ++ [y]).map (.int .i64) := by simp
            rw [eL] at hown
            have wy : (Lit.int .i64 y).wf = true := WalkArith.wf_i64 (by omega)
            have hg' : w.heap.size ≤ g' ∧ V ≠ g' ∧ V0 ≠ g' := by
              rcases hnew with e | e
              · have e' : (Value.slice a3 p.length c3).ownBlock = some g' := e.symm
                have := OH.three.lt g' e'
                exact ⟨by omega, fun x => NB.out (by rw [x]; exact e'), by omega⟩
              · have e' : g' = A6.heap.size := Option.some.inj e
                omega
            have w3 := wf_app9 w3 wy
            have HH := H3.mk ((has_of_own OH.one w1).grown hgrow (fun ad e => AP.out ad (.inl e))) ((has_of_own OH.two w2).grown hgrow (fun ad e => AP.out ad (.inr e))) (has_of_own hown w3)
            have cpX := Kept9.mk (own_caps9 hown)
            have bg : Below V0 A6 w3' := (Below.refl _ _).grown hgrow (by omega) (fun q e => by have := (OH.three.lt q e).1; omega)
            have S6 := SS.below' bg hsV
            have N6 := (N5.trans FF).then_below (bg.mono vw)
            have VV' : Hid (∀ y, (a1 = some y ∨ a2 = some y ∨ some (⟨g', 0, none⟩ : Addr) = some y) → V ≠ y.block) := by
              rintro y (e | e | e)
              · exact VV.out y (.inl e)
              · exact VV.out y (.inr (.inl e))
              · cases e; exact hg'.2.1
            have VW' : Hid (∀ y, (a1 = some y ∨ a2 = some y ∨ some (⟨g', 0, none⟩ : Addr) = some y) → V0 ≠ y.block) := by
              rintro y (e | e | e)
              · exact VW.out y (.inl e)
              · exact VW.out y (.inr (.inl e))
              · cases e; exact hg'.2.2
            have NW' : Hid (∀ y, (a1 = some y ∨ a2 = some y ∨ some (⟨g', 0, none⟩ : Addr) = some y) → w.heap.size ≤ y.block) := by
              rintro y (e | e | e)
              · exact NW.out y (.inl e)
              · exact NW.out y (.inr (.inl e))
              · cases e; exact hg'.1
            replace RV := hs
            replace HH := HH.set VV'.out 7 (.slice (some ⟨g', 0, none⟩) (p.length + 1) c')
            replace N6 := N6.storeNew (b := V) (o := 7) vb (.slice (some ⟨g', 0, none⟩) (p.length + 1) c')
            replace S6 := S6.below' (N := V0) ((Below.refl V0 w3').setCell (p := ⟨V, 7, none⟩) hle (.slice (some ⟨g', 0, none⟩) (p.length + 1) c')) hsV
            replace SV := SV3.set 7 (.slice (some ⟨g', 0, none⟩) (p.length + 1) c')
            obtain ⟨X, hX⟩ := al_w (SBX9 hs)
            rw [← hX] at RV HH N6 S6 SV hs
            simp only [← hX]
            clear hX
            have m0 : X.cell? ⟨V, 0, none⟩ = some (.int .i64 z) := (SV.cell 0).trans rfl
            have m1 : X.cell? ⟨V, 1, none⟩ = some (.int .i64 r) := (SV.cell 1).trans rfl
            have m2 : X.cell? ⟨V, 2, none⟩ = some (.int .i64 m) := (SV.cell 2).trans rfl
            have m3 : X.cell? ⟨V, 3, none⟩ = some (.int .i64 k) := (SV.cell 3).trans rfl
            have m4 : X.cell? ⟨V, 4, none⟩ = some (.int .i64 i) := (SV.cell 4).trans rfl
            have m5 : X.cell? ⟨V, 5, none⟩ = some (.slice a1 sh.length c1) := (SV.cell 5).trans rfl
            have m6 : X.cell? ⟨V, 6, none⟩ = some (.slice a2 ot.length c2) := (SV.cell 6).trans rfl
            have m7 : X.cell? ⟨V, 7, none⟩ = some (.slice (some ⟨g', 0, none⟩) (p.length + 1) c') := (SV.cell 7).trans rfl
            have f0 := SV.frozen 0
            have f1 := SV.frozen 1
            have f4 := SV.frozen 4
            have f7 := SV.frozen 7
            have r0 : X.cell? ⟨V0, 0, none⟩ = some (.int .i64 0) := (RV.cell 0).trans rfl
            have r1 : X.cell? ⟨V0, 1, none⟩ = some (.int .i64 0) := (RV.cell 1).trans rfl
            have r2 : X.cell? ⟨V0, 2, none⟩ = some (.int .i64 0) := (RV.cell 2).trans rfl
            have r3 : X.cell? ⟨V0, 3, none⟩ = some (.int .i64 0) := (RV.cell 3).trans rfl
            have r4 : X.cell? ⟨V0, 4, none⟩ = some (.int .i64 0) := (RV.cell 4).trans rfl
            have r5 : X.cell? ⟨V0, 5, none⟩ = some (.slice none 0 0) := (RV.cell 5).trans rfl
            have r6 : X.cell? ⟨V0, 6, none⟩ = some (.slice none 0 0) := (RV.cell 6).trans rfl
            have r7 : X.cell? ⟨V0, 7, none⟩ = some (.slice none 0 0) := (RV.cell 7).trans rfl
            have e0 := RV.frozen 0
            have e1 := RV.frozen 1
            have e2 := RV.frozen 2
            have e3 := RV.frozen 3
            have e4 := RV.frozen 4
            have e5 := RV.frozen 5
            have e6 := RV.frozen 6
            have e7 := RV.frozen 7
            have HD := Kept9.mk (HH.set8 VW'.out)
            have BB := Kept9.mk (below8 (Below.refl V0 X) (Nat.le_refl V0))
            have NN := Kept9.mk (only8 N6 vw)
            clear SV RV N6 OH HH w1 w2 w3 hs FF SS SV3 hown hgrow hnew k7 f7 PC eL wy bg N5 S5 nV nV0
            go_wp2
            obtain ⟨tq, htq, SQ⟩ : ∃ t', t' ≤ t + 10 ∧ SrcAt X B s a len cap zs t' := ⟨_, by omega, S6⟩
            refine bodyPost_ret (v := .agg #[.int .i64 z, .int .i64 r, .int .i64 m, .int .i64 k, .int .i64 i, .slice a1 sh.length c1, .slice a2 ot.length c2, .slice (some (⟨g', 0, none⟩ : Addr)) (p ++ [y]).length c']) (by simp [results, Tryz.results41, go_sem, r0, r1, r2, r3, r4, r5, r6, r7, hVV, hVW]) rfl ⟨z, r, m, k, i, a1, a2, (some (⟨g', 0, none⟩ : Addr)), c1, c2, c', sh, ot, (p ++ [y]), tq, rfl, ?_, ?_, ?_, ?_, htq, ?_, ?_⟩
            · exact ⟨by omega, by omega, by omega, by omega, by omega⟩
            · exact ⟨Nat.le_of_eq L1.out, Nat.le_of_eq L2.out, by have := L3.out; simp; omega, by have := cpX.out.1; simp; omega, cpX.out.2⟩
            · exact HD.out _ _ _ _ _ _ _ _
            · exact NW'.out
            · exact SQ.below' (N := V0) (BB.out _ _ _ _ _ _ _ _) hsV
            · exact NN.out _ _ _ _ _ _ _ _
          · go_simp
            refine (pick_any _ B s a len cap zs _ SS (by omega) G [5, -1] 2 rfl PB.lt gs (by omega) (by omega) 2 (blk_nums9 PB rfl)).mono ?_
            rintro _ uc ⟨y, rfl, hp, SA, Ya⟩
            refine hK'.out _ _ (hs.fr (M := fun k => s = k) (.of_grown Ya.grown (fun k e => by simpa using e)) hsV0) (fun hs => ?_)
            clear hK' K'
            try simp only [Act.put, List.setIfInBounds_toArray, List.set_cons_zero, List.set_cons_succ]
            replace FF := FF.trans Ya
            replace SV := SV.fr (M := fun k => s = k) (.of_grown Ya.grown (fun k e => by simpa using e)) (fun e => hsV2 e.symm)
            replace OH := OH.only Ya hsB
            clear SS PB
            have SS := SA
            clear SA Ya
            have hp' : -1 ≤ y ∧ y ≤ 5 := by simp at hp; omega
            clear hp
            refine wpAnyH_ready (rs := [1, 5]) (by kernel_rfl) (by simp) ?_
            refine AllReadyH.cons rfl (fun K' hK' => ?_) (AllReadyH.cons rfl (fun K' hK' => ?_) AllReadyH.nil)
            · have l7 := SV.cell 7
              simp at l7
              go_simp
              refine hK'.out _ _ hs (fun hs => ?_)
              clear hK' K'
              try simp only [Act.put, List.setIfInBounds_toArray, List.set_cons_zero, List.set_cons_succ]
              clear l7
              refine wpAnyH_ready (rs := [5]) (by kernel_rfl) (by simp) ?_
              refine AllReadyH.cons rfl (fun K' hK' => ?_) AllReadyH.nil
              have nH := SV.lt
              go_simp
              refine hK'.out _ _ (hs.below ((Below.refl _ _).alloc (Nat.le_refl _) _) hs.lt) (fun hs => ?_)
              clear hK' K'
              try simp only [Act.put, List.setIfInBounds_toArray, List.set_cons_zero, List.set_cons_succ]
              have PC := al_blk (SBX9 hs)
              replace SV := al_keep (SBX9 hs) SV
              replace OH := OH.below ((Below.refl _ _).alloc (Nat.le_refl _) (.cells #[.int .i64 y] 2))
              replace FF := FF.alloc (.cells #[.int .i64 y] 2)
              replace SS := SS.alloc (.cells #[.int .i64 y] 2)
              obtain ⟨A6, h6⟩ := al_o9 FF
              rw [← h6] at hs PC FF SS SV OH
              simp only [← h6]
              clear h6
              obtain ⟨G2, hG⟩ := al_b PC
              rw [← hG] at PC nH
              simp only [← hG]
              clear hG
              refine wpAnyH_ready (rs := [6]) (by kernel_rfl) (by simp) ?_
              refine AllReadyH.cons rfl (fun K' hK' => ?_) AllReadyH.nil
              refine step_app1 rfl _ _ 34 rfl BS 2 i0 Tryz.underlying34 hi hz0 hz1 hz2 (.slice a3 p.length c3) p.length (p.map (.int .i64)) rfl OH.three G2 1 y rfl (by have := PC.cell 0; simpa using this) (by have := L3.out; omega) (Nat.le_of_lt (Nat.lt_of_le_of_lt hBV SV.lt)) ?_
              intro g' c' w3' hown hgrow hnew
              have nV0 : ¬ (Value.slice a3 p.length c3).ownBlock = some V0 := fun e => by have := (OH.three.lt V0 e).1; omega
              have nV : ¬ (Value.slice a3 p.length c3).ownBlock = some V := fun e => NB.out e
              have uz := SV.lt
              refine hK'.out _ _ (hs.fr (M := fun q => (Value.slice a3 p.length c3).ownBlock = some q) (.of_grown hgrow (fun q e => e)) nV0) (fun hs => ?_)
              clear hK' K'
              try simp only [Act.put, List.setIfInBounds_toArray, List.set_cons_zero, List.set_cons_succ]
              have SV3 := SV.fr (M := fun q => (Value.slice a3 p.length c3).ownBlock = some q) (.of_grown hgrow (fun q e => e)) nV
              have k7 := SV3.cell 7
              have f7 := SV3.frozen 7
              simp at k7
              refine take_at (i := 7) (d := some 34) (v := ?mv5) rfl rfl (by kernel_rfl) (by kernel_rfl) (by kernel_rfl) (fun _ _ _ h => h) (Or.inl ⟨by rfl, ?my5⟩) hs ?mg5
              case my5 => (intro z hSz; skip; go_simp; (try with_reducible rfl))
              try simp only [Act.put, List.setIfInBounds_toArray, List.set_cons_zero, List.set_cons_succ]
              refine wpAnyH_ready (rs := [8]) (by kernel_rfl) (by simp) ?_
              refine AllReadyH.cons rfl (fun K' hK' => ?_) AllReadyH.nil
              go_simp
              refine hK'.out _ _ (hs.fr (M := fun q => q = V) (Fr.setCell (Fr.refl _ _) ⟨V, 7, none⟩ (.slice (some ⟨g', 0, none⟩) (p.length + 1) c') rfl) hVW) (fun hs => ?_)
              clear hK' K'
              try simp only [Act.put, List.setIfInBounds_toArray, List.set_cons_zero, List.set_cons_succ]
              refine wpAnyH_done (by kernel_rfl) (NoPanic.normal ?_) _
              have eL : p.map (Value.int .i64) ++ [.int .i64 y] = (p ++ [y]).map (.int .i64) := by simp
              rw [eL] at hown
              have wy : (Lit.int .i64 y).wf = true := WalkArith.wf_i64 (by omega)
              have hg' : w.heap.size ≤ g' ∧ V ≠ g' ∧ V0 ≠ g' := by
                rcases hnew with e | e
                · have e' : (Value.slice a3 p.length c3).ownBlock = some g' := e.symm
                  have := OH.three.lt g' e'
                  exact ⟨by omega, fun x => NB.out (by rw [x]; exact e'), by omega⟩
                · have e' : g' = A6.heap.size := Option.some.inj e
                  omega
              have w3 := wf_app9 w3 wy
              have HH := H3.mk ((has_of_own OH.one w1).grown hgrow (fun ad e => AP.out ad (.inl e))) ((has_of_own OH.two w2).grown hgrow (fun ad e => AP.out ad (.inr e))) (has_of_own hown w3)
              have cpX := Kept9.mk (own_caps9 hown)
              have bg : Below V0 A6 w3' := (Below.refl _ _).grown hgrow (by omega) (fun q e => by have := (OH.three.lt q e).1; omega)
              have S6 := SS.below' bg hsV
              have N6 := (N5.trans FF).then_below (bg.mono vw)
              have VV' : Hid (∀ y, (a1 = some y ∨ a2 = some y ∨ some (⟨g', 0, none⟩ : Addr) = some y) → V ≠ y.block) := by
                rintro y (e | e | e)
                · exact VV.out y (.inl e)
                · exact VV.out y (.inr (.inl e))
                · cases e; exact hg'.2.1
              have VW' : Hid (∀ y, (a1 = some y ∨ a2 = some y ∨ some (⟨g', 0, none⟩ : Addr) = some y) → V0 ≠ y.block) := by
                rintro y (e | e | e)
                · exact VW.out y (.inl e)
                · exact VW.out y (.inr (.inl e))
                · cases e; exact hg'.2.2
              have NW' : Hid (∀ y, (a1 = some y ∨ a2 = some y ∨ some (⟨g', 0, none⟩ : Addr) = some y) → w.heap.size ≤ y.block) := by
                rintro y (e | e | e)
                · exact NW.out y (.inl e)
                · exact NW.out y (.inr (.inl e))
                · cases e; exact hg'.1
              replace RV := hs
              replace HH := HH.set VV'.out 7 (.slice (some ⟨g', 0, none⟩) (p.length + 1) c')
              replace N6 := N6.storeNew (b := V) (o := 7) vb (.slice (some ⟨g', 0, none⟩) (p.length + 1) c')
              replace S6 := S6.below' (N := V0) ((Below.refl V0 w3').setCell (p := ⟨V, 7, none⟩) hle (.slice (some ⟨g', 0, none⟩) (p.length + 1) c')) hsV
              replace SV := SV3.set 7 (.slice (some ⟨g', 0, none⟩) (p.length + 1) c')
              obtain ⟨X, hX⟩ := al_w (SBX9 hs)
              rw [← hX] at RV HH N6 S6 SV hs
              simp only [← hX]
              clear hX
              have m0 : X.cell? ⟨V, 0, none⟩ = some (.int .i64 z) := (SV.cell 0).trans rfl
              have m1 : X.cell? ⟨V, 1, none⟩ = some (.int .i64 r) := (SV.cell 1).trans rfl
              have m2 : X.cell? ⟨V, 2, none⟩ = some (.int .i64 m) := (SV.cell 2).trans rfl
              have m3 : X.cell? ⟨V, 3, none⟩ = some (.int .i64 k) := (SV.cell 3).trans rfl
              have m4 : X.cell? ⟨V, 4, none⟩ = some (.int .i64 i) := (SV.cell 4).trans rfl
              have m5 : X.cell? ⟨V, 5, none⟩ = some (.slice a1 sh.length c1) := (SV.cell 5).trans rfl
              have m6 : X.cell? ⟨V, 6, none⟩ = some (.slice a2 ot.length c2) := (SV.cell 6).trans rfl
              have m7 : X.cell? ⟨V, 7, none⟩ = some (.slice (some ⟨g', 0, none⟩) (p.length + 1) c') := (SV.cell 7).trans rfl
              have f0 := SV.frozen 0
              have f1 := SV.frozen 1
              have f4 := SV.frozen 4
              have f7 := SV.frozen 7
              have r0 : X.cell? ⟨V0, 0, none⟩ = some (.int .i64 0) := (RV.cell 0).trans rfl
              have r1 : X.cell? ⟨V0, 1, none⟩ = some (.int .i64 0) := (RV.cell 1).trans rfl
              have r2 : X.cell? ⟨V0, 2, none⟩ = some (.int .i64 0) := (RV.cell 2).trans rfl
              have r3 : X.cell? ⟨V0, 3, none⟩ = some (.int .i64 0) := (RV.cell 3).trans rfl
              have r4 : X.cell? ⟨V0, 4, none⟩ = some (.int .i64 0) := (RV.cell 4).trans rfl
              have r5 : X.cell? ⟨V0, 5, none⟩ = some (.slice none 0 0) := (RV.cell 5).trans rfl
              have r6 : X.cell? ⟨V0, 6, none⟩ = some (.slice none 0 0) := (RV.cell 6).trans rfl
              have r7 : X.cell? ⟨V0, 7, none⟩ = some (.slice none 0 0) := (RV.cell 7).trans rfl
              have e0 := RV.frozen 0
              have e1 := RV.frozen 1
              have e2 := RV.frozen 2
              have e3 := RV.frozen 3
              have e4 := RV.frozen 4
              have e5 := RV.frozen 5
              have e6 := RV.frozen 6
              have e7 := RV.frozen 7
              have HD := Kept9.mk (HH.set8 VW'.out)
              have BB := Kept9.mk (below8 (Below.refl V0 X) (Nat.le_refl V0))
              have NN := Kept9.mk (only8 N6 vw)
              clear SV RV N6 OH HH w1 w2 w3 hs FF SS SV3 hown hgrow hnew k7 f7 PC eL wy bg N5 S5 nV nV0
              go_wp2
              obtain ⟨tq, htq, SQ⟩ : ∃ t', t' ≤ t + 10 ∧ SrcAt X B s a len cap zs t' := ⟨_, by omega, S6⟩
              refine bodyPost_ret (v := .agg #[.int .i64 z, .int .i64 r, .int .i64 m, .int .i64 k, .int .i64 i, .slice a1 sh.length c1, .slice a2 ot.length c2, .slice (some (⟨g', 0, none⟩ : Addr)) (p ++ [y]).length c']) (by simp [results, Tryz.results41, go_sem, r0, r1, r2, r3, r4, r5, r6, r7, hVV, hVW]) rfl ⟨z, r, m, k, i, a1, a2, (some (⟨g', 0, none⟩ : Addr)), c1, c2, c', sh, ot, (p ++ [y]), tq, rfl, ?_, ?_, ?_, ?_, htq, ?_, ?_⟩
              · exact ⟨by omega, by omega, by omega, by omega, by omega⟩
              · exact ⟨Nat.le_of_eq L1.out, Nat.le_of_eq L2.out, by have := L3.out; simp; omega, by have := cpX.out.1; simp; omega, cpX.out.2⟩
              · exact HD.out _ _ _ _ _ _ _ _
              · exact NW'.out
              · exact SQ.below' (N := V0) (BB.out _ _ _ _ _ _ _ _) hsV
              · exact NN.out _ _ _ _ _ _ _ _
            · have nH := SV.lt
              go_simp
              refine hK'.out _ _ (hs.below ((Below.refl _ _).alloc (Nat.le_refl _) _) hs.lt) (fun hs => ?_)
              clear hK' K'
              try simp only [Act.put, List.setIfInBounds_toArray, List.set_cons_zero, List.set_cons_succ]
              have PC := al_blk (SBX9 hs)
              replace SV := al_keep (SBX9 hs) SV
              replace OH := OH.below ((Below.refl _ _).alloc (Nat.le_refl _) (.cells #[.int .i64 y] 2))
              replace FF := FF.alloc (.cells #[.int .i64 y] 2)
              replace SS := SS.alloc (.cells #[.int .i64 y] 2)
              obtain ⟨A6, h6⟩ := al_o9 FF
              rw [← h6] at hs PC FF SS SV OH
              simp only [← h6]
              clear h6
              obtain ⟨G2, hG⟩ := al_b PC
              rw [← hG] at PC nH
              simp only [← hG]
              clear hG
              refine wpAnyH_ready (rs := [1]) (by kernel_rfl) (by simp) ?_
              refine AllReadyH.cons rfl (fun K' hK' => ?_) AllReadyH.nil
              have l7 := SV.cell 7
              simp at l7
              go_simp
              refine hK'.out _ _ hs (fun hs => ?_)
              clear hK' K'
              try simp only [Act.put, List.setIfInBounds_toArray, List.set_cons_zero, List.set_cons_succ]
              clear l7
              refine wpAnyH_ready (rs := [6]) (by kernel_rfl) (by simp) ?_
              refine AllReadyH.cons rfl (fun K' hK' => ?_) AllReadyH.nil
              refine step_app1 rfl _ _ 34 rfl BS 2 i0 Tryz.underlying34 hi hz0 hz1 hz2 (.slice a3 p.length c3) p.length (p.map (.int .i64)) rfl OH.three G2 1 y rfl (by have := PC.cell 0; simpa using this) (by have := L3.out; omega) (Nat.le_of_lt (Nat.lt_of_le_of_lt hBV SV.lt)) ?_
              intro g' c' w3' hown hgrow hnew
              have nV0 : ¬ (Value.slice a3 p.length c3).ownBlock = some V0 := fun e => by have := (OH.three.lt V0 e).1; omega
              have nV : ¬ (Value.slice a3 p.length c3).ownBlock = some V := fun e => NB.out e
              have uz := SV.lt
              refine hK'.out _ _ (hs.fr (M := fun q => (Value.slice a3 p.length c3).ownBlock = some q) (.of_grown hgrow (fun q e => e)) nV0) (fun hs => ?_)
              clear hK' K'
              try simp only [Act.put, List.setIfInBounds_toArray, List.set_cons_zero, List.set_cons_succ]
              have SV3 := SV.fr (M := fun q => (Value.slice a3 p.length c3).ownBlock = some q) (.of_grown hgrow (fun q e => e)) nV
              have k7 := SV3.cell 7
              have f7 := SV3.frozen 7
              simp at k7
              refine take_at (i := 7) (d := some 34) (v := ?mv6) rfl rfl (by kernel_rfl) (by kernel_rfl) (by kernel_rfl) (fun _ _ _ h => h) (Or.inl ⟨by rfl, ?my6⟩) hs ?mg6
              case my6 => (intro z hSz; skip; go_simp; (try with_reducible rfl))
              try simp only [Act.put, List.setIfInBounds_toArray, List.set_cons_zero, List.set_cons_succ]
              refine wpAnyH_ready (rs := [8]) (by kernel_rfl) (by simp) ?_
              refine AllReadyH.cons rfl (fun K' hK' => ?_) AllReadyH.nil
              go_simp
              refine hK'.out _ _ (hs.fr (M := fun q => q = V) (Fr.setCell (Fr.refl _ _) ⟨V, 7, none⟩ (.slice (some ⟨g', 0, none⟩) (p.length + 1) c') rfl) hVW) (fun hs => ?_)
              clear hK' K'
              try simp only [Act.put, List.setIfInBounds_toArray, List.set_cons_zero, List.set_cons_succ]
              refine wpAnyH_done (by kernel_rfl) (NoPanic.normal ?_) _
              have eL : p.map (Value.int .i64) ++ [.int .i64 y] = (p ++ [y]).map (.int .i64) := by simp
              rw [eL] at hown
              have wy : (Lit.int .i64 y).wf = true := WalkArith.wf_i64 (by omega)
              have hg' : w.heap.size ≤ g' ∧ V ≠ g' ∧ V0 ≠ g' := by
                rcases hnew with e | e
                · have e' : (Value.slice a3 p.length c3).ownBlock = some g' := e.symm
                  have := OH.three.lt g' e'
                  exact ⟨by omega, fun x => NB.out (by rw [x]; exact e'), by omega⟩
                · have e' : g' = A6.heap.size := Option.some.inj e
                  omega
              have w3 := wf_app9 w3 wy
              have HH := H3.mk ((has_of_own OH.one w1).grown hgrow (fun ad e => AP.out ad (.inl e))) ((has_of_own OH.two w2).grown hgrow (fun ad e => AP.out ad (.inr e))) (has_of_own hown w3)
              have cpX := Kept9.mk (own_caps9 hown)
              have bg : Below V0 A6 w3' := (Below.refl _ _).grown hgrow (by omega) (fun q e => by have := (OH.three.lt q e).1; omega)
              have S6 := SS.below' bg hsV
              have N6 := (N5.trans FF).then_below (bg.mono vw)
              have VV' : Hid (∀ y, (a1 = some y ∨ a2 = some y ∨ some (⟨g', 0, none⟩ : Addr) = some y) → V ≠ y.block) := by
                rintro y (e | e | e)
                · exact VV.out y (.inl e)
                · exact VV.out y (.inr (.inl e))
                · cases e; exact hg'.2.1
              have VW' : Hid (∀ y, (a1 = some y ∨ a2 = some y ∨ some (⟨g', 0, none⟩ : Addr) = some y) → V0 ≠ y.block) := by
                rintro y (e | e | e)
                · exact VW.out y (.inl e)
                · exact VW.out y (.inr (.inl e))
                · cases e; exact hg'.2.2
              have NW' : Hid (∀ y, (a1 = some y ∨ a2 = some y ∨ some (⟨g', 0, none⟩ : Addr) = some y) → w.heap.size ≤ y.block) := by
                rintro y (e | e | e)
                · exact NW.out y (.inl e)
                · exact NW.out y (.inr (.inl e))
                · cases e; exact hg'.1
              replace RV := hs
              replace HH := HH.set VV'.out 7 (.slice (some ⟨g', 0, none⟩) (p.length + 1) c')
              replace N6 := N6.storeNew (b := V) (o := 7) vb (.slice (some ⟨g', 0, none⟩) (p.length + 1) c')
              replace S6 := S6.below' (N := V0) ((Below.refl V0 w3').setCell (p := ⟨V, 7, none⟩) hle (.slice (some ⟨g', 0, none⟩) (p.length + 1) c')) hsV
              replace SV := SV3.set 7 (.slice (some ⟨g', 0, none⟩) (p.length + 1) c')
              obtain ⟨X, hX⟩ := al_w (SBX9 hs)
              rw [← hX] at RV HH N6 S6 SV hs
              simp only [← hX]
              clear hX
              have m0 : X.cell? ⟨V, 0, none⟩ = some (.int .i64 z) := (SV.cell 0).trans rfl
              have m1 : X.cell? ⟨V, 1, none⟩ = some (.int .i64 r) := (SV.cell 1).trans rfl
              have m2 : X.cell? ⟨V, 2, none⟩ = some (.int .i64 m) := (SV.cell 2).trans rfl
              have m3 : X.cell? ⟨V, 3, none⟩ = some (.int .i64 k) := (SV.cell 3).trans rfl
              have m4 : X.cell? ⟨V, 4, none⟩ = some (.int .i64 i) := (SV.cell 4).trans rfl
              have m5 : X.cell? ⟨V, 5, none⟩ = some (.slice a1 sh.length c1) := (SV.cell 5).trans rfl
              have m6 : X.cell? ⟨V, 6, none⟩ = some (.slice a2 ot.length c2) := (SV.cell 6).trans rfl
              have m7 : X.cell? ⟨V, 7, none⟩ = some (.slice (some ⟨g', 0, none⟩) (p.length + 1) c') := (SV.cell 7).trans rfl
              have f0 := SV.frozen 0
              have f1 := SV.frozen 1
              have f4 := SV.frozen 4
              have f7 := SV.frozen 7
              have r0 : X.cell? ⟨V0, 0, none⟩ = some (.int .i64 0) := (RV.cell 0).trans rfl
              have r1 : X.cell? ⟨V0, 1, none⟩ = some (.int .i64 0) := (RV.cell 1).trans rfl
              have r2 : X.cell? ⟨V0, 2, none⟩ = some (.int .i64 0) := (RV.cell 2).trans rfl
              have r3 : X.cell? ⟨V0, 3, none⟩ = some (.int .i64 0) := (RV.cell 3).trans rfl
              have r4 : X.cell? ⟨V0, 4, none⟩ = some (.int .i64 0) := (RV.cell 4).trans rfl
              have r5 : X.cell? ⟨V0, 5, none⟩ = some (.slice none 0 0) := (RV.cell 5).trans rfl
              have r6 : X.cell? ⟨V0, 6, none⟩ = some (.slice none 0 0) := (RV.cell 6).trans rfl
              have r7 : X.cell? ⟨V0, 7, none⟩ = some (.slice none 0 0) := (RV.cell 7).trans rfl
              have e0 := RV.frozen 0
              have e1 := RV.frozen 1
              have e2 := RV.frozen 2
              have e3 := RV.frozen 3
              have e4 := RV.frozen 4
              have e5 := RV.frozen 5
              have e6 := RV.frozen 6
              have e7 := RV.frozen 7
              have HD := Kept9.mk (HH.set8 VW'.out)
              have BB := Kept9.mk (below8 (Below.refl V0 X) (Nat.le_refl V0))
              have NN := Kept9.mk (only8 N6 vw)
              clear SV RV N6 OH HH w1 w2 w3 hs FF SS SV3 hown hgrow hnew k7 f7 PC eL wy bg N5 S5 nV nV0
              go_wp2
              obtain ⟨tq, htq, SQ⟩ : ∃ t', t' ≤ t + 10 ∧ SrcAt X B s a len cap zs t' := ⟨_, by omega, S6⟩
              refine bodyPost_ret (v := .agg #[.int .i64 z, .int .i64 r, .int .i64 m, .int .i64 k, .int .i64 i, .slice a1 sh.length c1, .slice a2 ot.length c2, .slice (some (⟨g', 0, none⟩ : Addr)) (p ++ [y]).length c']) (by simp [results, Tryz.results41, go_sem, r0, r1, r2, r3, r4, r5, r6, r7, hVV, hVW]) rfl ⟨z, r, m, k, i, a1, a2, (some (⟨g', 0, none⟩ : Addr)), c1, c2, c', sh, ot, (p ++ [y]), tq, rfl, ?_, ?_, ?_, ?_, htq, ?_, ?_⟩
              · exact ⟨by omega, by omega, by omega, by omega, by omega⟩
              · exact ⟨Nat.le_of_eq L1.out, Nat.le_of_eq L2.out, by have := L3.out; simp; omega, by have := cpX.out.1; simp; omega, cpX.out.2⟩
              · exact HD.out _ _ _ _ _ _ _ _
              · exact NW'.out
              · exact SQ.below' (N := V0) (BB.out _ _ _ _ _ _ _ _) hsV
              · exact NN.out _ _ _ _ _ _ _ _
      · have t2b : (q' == 2) = false := by simpa using t2
        clear t2
        by_cases t3 : q' = 3
        · have t3b : (q' == 3) = true := by simpa using t3
          clear t3
          have hmk : ∀ w : World, (Instr.makeSlice 34 (.int .i64 7) (.int .i64 7)).run Tryz.prog w = .ok (.slice (some ⟨w.heap.size, 0, none⟩) 7 7) (w.alloc (.cells #[.int .i64 0, .int .i64 0, .int .i64 0, .int .i64 0, .int .i64 0, .int .i64 0, .int .i64 0] 2)) := by intro w; kernel_rfl
          obtain ⟨u6, h6⟩ : ∃ u, u = u5.alloc (.cells #[.int .i64 0, .int .i64 0, .int .i64 0, .int .i64 0, .int .i64 0, .int .i64 0, .int .i64 0] 2) := ⟨_, rfl⟩
          have bl : Below u5.heap.size u5 u6 := by rw [h6]; exact (Below.refl _ _).alloc (Nat.le_refl _) _
          replace SV := SV.below bl SV.lt
          replace RV := RV.below bl RV.lt
          have o1 := own_below OH.one bl
          have o2 := own_below OH.two bl
          have o3 : World.ownsRow u6 u5.heap.size 2 1 (.slice (some ⟨u5.heap.size, 0, none⟩) 7 7) 7 (([0, 0, 0, 0, 0, 0, 0] : List Int).map (.int .i64)) := by rw [h6]; exact World.ownsRow_lit u5 #[.int .i64 0, .int .i64 0, .int .i64 0, .int .i64 0, .int .i64 0, .int .i64 0, .int .i64 0] 7 (Nat.le_refl _) (by unfold maxLen; omega) rfl
          have S6 := S5.below bl
          have N6 := N5.then_below (bl.mono (by have := N5.size; omega))
          have hmk5 : (Instr.makeSlice 34 (.int .i64 7) (.int .i64 7)).run Tryz.prog u5 = .ok (.slice (some ⟨u5.heap.size, 0, none⟩) 7 7) u6 := by rw [h6]; exact hmk u5
          obtain ⟨G, hG⟩ : ∃ G, G = u5.heap.size := ⟨_, rfl⟩
          rw [← hG] at o3 hmk5 z5
          have z6 := SV.lt
          have nw3 : w.heap.size ≤ G := by omega
          have HH := H3.mk (has_of_own o1 w1) (has_of_own o2 w2) (has_of_own o3 (by decide))
          have VV' : Hid (∀ y, (a1 = some y ∨ a2 = some y ∨ some (⟨G, 0, none⟩ : Addr) = some y) → V ≠ y.block) := by
            rintro y (e | e | e)
            · exact VV.out y (.inl e)
            · exact VV.out y (.inr (.inl e))
            · cases e; show V ≠ G; omega
          have VW' : Hid (∀ y, (a1 = some y ∨ a2 = some y ∨ some (⟨G, 0, none⟩ : Addr) = some y) → V0 ≠ y.block) := by
            rintro y (e | e | e)
            · exact VW.out y (.inl e)
            · exact VW.out y (.inr (.inl e))
            · cases e; show V0 ≠ G; omega
          have NW' : Hid (∀ y, (a1 = some y ∨ a2 = some y ∨ some (⟨G, 0, none⟩ : Addr) = some y) → w.heap.size ≤ y.block) := by
            rintro y (e | e | e)
            · exact NW.out y (.inl e)
            · exact NW.out y (.inr (.inl e))
            · cases e; exact nw3
          have m0 : u6.cell? ⟨V, 0, none⟩ = some (.int .i64 z) := (SV.cell 0).trans rfl
          have m1 : u6.cell? ⟨V, 1, none⟩ = some (.int .i64 r) := (SV.cell 1).trans rfl
          have m2 : u6.cell? ⟨V, 2, none⟩ = some (.int .i64 m) := (SV.cell 2).trans rfl
          have m3 : u6.cell? ⟨V, 3, none⟩ = some (.int .i64 k) := (SV.cell 3).trans rfl
          have m4 : u6.cell? ⟨V, 4, none⟩ = some (.int .i64 i) := (SV.cell 4).trans rfl
          have m5 : u6.cell? ⟨V, 5, none⟩ = some (.slice a1 sh.length c1) := (SV.cell 5).trans rfl
          have m6 : u6.cell? ⟨V, 6, none⟩ = some (.slice a2 ot.length c2) := (SV.cell 6).trans rfl
          have m7 : u6.cell? ⟨V, 7, none⟩ = some (.slice a3 p.length c3) := (SV.cell 7).trans rfl
          have f0 := SV.frozen 0
          have f1 := SV.frozen 1
          have f4 := SV.frozen 4
          have f7 := SV.frozen 7
          have r0 : u6.cell? ⟨V0, 0, none⟩ = some (.int .i64 0) := (RV.cell 0).trans rfl
          have r1 : u6.cell? ⟨V0, 1, none⟩ = some (.int .i64 0) := (RV.cell 1).trans rfl
          have r2 : u6.cell? ⟨V0, 2, none⟩ = some (.int .i64 0) := (RV.cell 2).trans rfl
          have r3 : u6.cell? ⟨V0, 3, none⟩ = some (.int .i64 0) := (RV.cell 3).trans rfl
          have r4 : u6.cell? ⟨V0, 4, none⟩ = some (.int .i64 0) := (RV.cell 4).trans rfl
          have r5 : u6.cell? ⟨V0, 5, none⟩ = some (.slice none 0 0) := (RV.cell 5).trans rfl
          have r6 : u6.cell? ⟨V0, 6, none⟩ = some (.slice none 0 0) := (RV.cell 6).trans rfl
          have r7 : u6.cell? ⟨V0, 7, none⟩ = some (.slice none 0 0) := (RV.cell 7).trans rfl
          have e0 := RV.frozen 0
          have e1 := RV.frozen 1
          have e2 := RV.frozen 2
          have e3 := RV.frozen 3
          have e4 := RV.frozen 4
          have e5 := RV.frozen 5
          have e6 := RV.frozen 6
          have e7 := RV.frozen 7
          have BB : Hid (∀ (x x0 x1 x2 x3 x4 x5 x6 x7 : Value), Below V0 u6 (((((((((u6.setCell ⟨V, 7, none⟩ x).setCell ⟨V0, 0, none⟩ x0).setCell ⟨V0, 1, none⟩ x1).setCell ⟨V0, 2, none⟩ x2).setCell ⟨V0, 3, none⟩ x3).setCell ⟨V0, 4, none⟩ x4).setCell ⟨V0, 5, none⟩ x5).setCell ⟨V0, 6, none⟩ x6).setCell ⟨V0, 7, none⟩ x7)) := fun _ _ _ _ _ _ _ _ _ => below8 ((Below.refl V0 u6).setCell (p := ⟨V, 7, none⟩) hle _) (Nat.le_refl _) _ _ _ _ _ _ _ _
          have NN : Hid (∀ (x x0 x1 x2 x3 x4 x5 x6 x7 : Value), Only s w (((((((((u6.setCell ⟨V, 7, none⟩ x).setCell ⟨V0, 0, none⟩ x0).setCell ⟨V0, 1, none⟩ x1).setCell ⟨V0, 2, none⟩ x2).setCell ⟨V0, 3, none⟩ x3).setCell ⟨V0, 4, none⟩ x4).setCell ⟨V0, 5, none⟩ x5).setCell ⟨V0, 6, none⟩ x6).setCell ⟨V0, 7, none⟩ x7)) := fun _ _ _ _ _ _ _ _ _ => only8 (N6.storeNew vb _) vw _ _ _ _ _ _ _ _
          have HD : Hid (∀ (x x0 x1 x2 x3 x4 x5 x6 x7 : Value), H3 (((((((((u6.setCell ⟨V, 7, none⟩ x).setCell ⟨V0, 0, none⟩ x0).setCell ⟨V0, 1, none⟩ x1).setCell ⟨V0, 2, none⟩ x2).setCell ⟨V0, 3, none⟩ x3).setCell ⟨V0, 4, none⟩ x4).setCell ⟨V0, 5, none⟩ x5).setCell ⟨V0, 6, none⟩ x6).setCell ⟨V0, 7, none⟩ x7) a1 a2 (some (⟨G, 0, none⟩ : Addr)) sh ot ([0, 0, 0, 0, 0, 0, 0] : List Int)) := fun _ _ _ _ _ _ _ _ _ => (HH.set VV'.out 7 _).set8 VW'.out _ _ _ _ _ _ _ _
          clear SV RV N6 N5 OH HH w1 w2 w3 o1 o2 o3 hmk h6 hG bl S5
          go_wp2
          obtain ⟨tq, htq, SQ⟩ : ∃ t', t' ≤ t + 10 ∧ SrcAt u6 B s a len cap zs t' := ⟨_, by omega, S6⟩
          refine bodyPost_ret (v := .agg #[.int .i64 z, .int .i64 r, .int .i64 m, .int .i64 k, .int .i64 i, .slice a1 sh.length c1, .slice a2 ot.length c2, .slice (some (⟨G, 0, none⟩ : Addr)) ([0, 0, 0, 0, 0, 0, 0] : List Int).length 7]) (by simp [results, Tryz.results41, go_sem, r0, r1, r2, r3, r4, r5, r6, r7, hVV, hVW]) rfl ⟨z, r, m, k, i, a1, a2, (some (⟨G, 0, none⟩ : Addr)), c1, c2, 7, sh, ot, ([0, 0, 0, 0, 0, 0, 0] : List Int), tq, rfl, ?_, ?_, ?_, ?_, htq, ?_, ?_⟩
          · exact ⟨by omega, by omega, by omega, by omega, by omega⟩
          · exact ⟨Nat.le_of_eq L1.out, Nat.le_of_eq L2.out, by decide, by decide, by unfold maxLen; omega⟩
          · exact HD.out _ _ _ _ _ _ _ _ _
          · exact NW'.out
          · exact SQ.below' (N := V0) (BB.out _ _ _ _ _ _ _ _ _) hsV
          · exact NN.out _ _ _ _ _ _ _ _ _
        · have t3b : (q' == 3) = false := by simpa using t3
          clear t3
          by_cases t4 : q' = 4
          · have t4b : (q' == 4) = true := by simpa using t4
            clear t4
            go_wp2_with fail
            refine (next_wide _ B s a len cap zs _ 65521 S5 (by omega) (by omega) (by omega)).mono ?_
            rintro e u6 ⟨y, rfl, y0, y1, S6, Y6⟩
            have f6 : Fr (fun k => s = k) u5 u6 := (.of_grown Y6.grown (fun k e => by simpa using e))
            replace SV := SV.fr f6 (fun e => hsV2 e.symm)
            replace RV := RV.fr f6 (by omega)
            replace OH := OH.only Y6 (by omega)
            have N6 := N5.trans Y6
            clear S5 Y6 f6 N5
            have m0 : u6.cell? ⟨V, 0, none⟩ = some (.int .i64 z) := (SV.cell 0).trans rfl
            have m1 : u6.cell? ⟨V, 1, none⟩ = some (.int .i64 r) := (SV.cell 1).trans rfl
            have m2 : u6.cell? ⟨V, 2, none⟩ = some (.int .i64 m) := (SV.cell 2).trans rfl
            have m3 : u6.cell? ⟨V, 3, none⟩ = some (.int .i64 k) := (SV.cell 3).trans rfl
            have m4 : u6.cell? ⟨V, 4, none⟩ = some (.int .i64 i) := (SV.cell 4).trans rfl
            have m5 : u6.cell? ⟨V, 5, none⟩ = some (.slice a1 sh.length c1) := (SV.cell 5).trans rfl
            have m6 : u6.cell? ⟨V, 6, none⟩ = some (.slice a2 ot.length c2) := (SV.cell 6).trans rfl
            have m7 : u6.cell? ⟨V, 7, none⟩ = some (.slice a3 p.length c3) := (SV.cell 7).trans rfl
            have f0 := SV.frozen 0
            have f1 := SV.frozen 1
            have f4 := SV.frozen 4
            have f7 := SV.frozen 7
            have r0 : u6.cell? ⟨V0, 0, none⟩ = some (.int .i64 0) := (RV.cell 0).trans rfl
            have r1 : u6.cell? ⟨V0, 1, none⟩ = some (.int .i64 0) := (RV.cell 1).trans rfl
            have r2 : u6.cell? ⟨V0, 2, none⟩ = some (.int .i64 0) := (RV.cell 2).trans rfl
            have r3 : u6.cell? ⟨V0, 3, none⟩ = some (.int .i64 0) := (RV.cell 3).trans rfl
            have r4 : u6.cell? ⟨V0, 4, none⟩ = some (.int .i64 0) := (RV.cell 4).trans rfl
            have r5 : u6.cell? ⟨V0, 5, none⟩ = some (.slice none 0 0) := (RV.cell 5).trans rfl
            have r6 : u6.cell? ⟨V0, 6, none⟩ = some (.slice none 0 0) := (RV.cell 6).trans rfl
            have r7 : u6.cell? ⟨V0, 7, none⟩ = some (.slice none 0 0) := (RV.cell 7).trans rfl
            have e0 := RV.frozen 0
            have e1 := RV.frozen 1
            have e2 := RV.frozen 2
            have e3 := RV.frozen 3
            have e4 := RV.frozen 4
            have e5 := RV.frozen 5
            have e6 := RV.frozen 6
            have e7 := RV.frozen 7
            have HH := H3.mk (has_of_own OH.one w1) (has_of_own OH.two w2) (has_of_own OH.three w3)
            have BB : Hid (∀ (x x0 x1 x2 x3 x4 x5 x6 x7 : Value), Below V0 u6 (((((((((u6.setCell ⟨V, 1, none⟩ x).setCell ⟨V0, 0, none⟩ x0).setCell ⟨V0, 1, none⟩ x1).setCell ⟨V0, 2, none⟩ x2).setCell ⟨V0, 3, none⟩ x3).setCell ⟨V0, 4, none⟩ x4).setCell ⟨V0, 5, none⟩ x5).setCell ⟨V0, 6, none⟩ x6).setCell ⟨V0, 7, none⟩ x7)) := fun _ _ _ _ _ _ _ _ _ => below8 ((Below.refl V0 u6).setCell (p := ⟨V, 1, none⟩) hle _) (Nat.le_refl _) _ _ _ _ _ _ _ _
            have NN : Hid (∀ (x x0 x1 x2 x3 x4 x5 x6 x7 : Value), Only s w (((((((((u6.setCell ⟨V, 1, none⟩ x).setCell ⟨V0, 0, none⟩ x0).setCell ⟨V0, 1, none⟩ x1).setCell ⟨V0, 2, none⟩ x2).setCell ⟨V0, 3, none⟩ x3).setCell ⟨V0, 4, none⟩ x4).setCell ⟨V0, 5, none⟩ x5).setCell ⟨V0, 6, none⟩ x6).setCell ⟨V0, 7, none⟩ x7)) := fun _ _ _ _ _ _ _ _ _ => only8 (N6.storeNew vb _) vw _ _ _ _ _ _ _ _
            have HD : Hid (∀ (x x0 x1 x2 x3 x4 x5 x6 x7 : Value), H3 (((((((((u6.setCell ⟨V, 1, none⟩ x).setCell ⟨V0, 0, none⟩ x0).setCell ⟨V0, 1, none⟩ x1).setCell ⟨V0, 2, none⟩ x2).setCell ⟨V0, 3, none⟩ x3).setCell ⟨V0, 4, none⟩ x4).setCell ⟨V0, 5, none⟩ x5).setCell ⟨V0, 6, none⟩ x6).setCell ⟨V0, 7, none⟩ x7) a1 a2 a3 sh ot p) := fun _ _ _ _ _ _ _ _ _ => (HH.set VV.out 1 _).set8 VW.out _ _ _ _ _ _ _ _
            clear SV RV N6 OH HH w1 w2 w3
            go_wp2
            obtain ⟨tq, htq, SQ⟩ : ∃ t', t' ≤ t + 10 ∧ SrcAt u6 B s a len cap zs t' := ⟨_, by omega, S6⟩
            refine bodyPost_ret (v := .agg #[.int .i64 z, .int .i64 y, .int .i64 m, .int .i64 k, .int .i64 i, .slice a1 sh.length c1, .slice a2 ot.length c2, .slice a3 p.length c3]) (by simp [results, Tryz.results41, go_sem, r0, r1, r2, r3, r4, r5, r6, r7, hVV, hVW]) rfl ⟨z, y, m, k, i, a1, a2, a3, c1, c2, c3, sh, ot, p, tq, rfl, ?_, ?_, ?_, ?_, htq, ?_, ?_⟩
            · exact ⟨by omega, by omega, by omega, by omega, by omega⟩
            · exact ⟨Nat.le_of_eq L1.out, Nat.le_of_eq L2.out, by have := L3.out; omega, cap3.out.1, cap3.out.2⟩
            · exact HD.out _ _ _ _ _ _ _ _ _
            · exact NW.out
            · exact SQ.below' (N := V0) (BB.out _ _ _ _ _ _ _ _ _) hsV
            · exact NN.out _ _ _ _ _ _ _ _ _
          · have t4b : (q' == 4) = false := by simpa using t4
            clear t4
            have m0 : u5.cell? ⟨V, 0, none⟩ = some (.int .i64 z) := (SV.cell 0).trans rfl
            have m1 : u5.cell? ⟨V, 1, none⟩ = some (.int .i64 r) := (SV.cell 1).trans rfl
            have m2 : u5.cell? ⟨V, 2, none⟩ = some (.int .i64 m) := (SV.cell 2).trans rfl
            have m3 : u5.cell? ⟨V, 3, none⟩ = some (.int .i64 k) := (SV.cell 3).trans rfl
            have m4 : u5.cell? ⟨V, 4, none⟩ = some (.int .i64 i) := (SV.cell 4).trans rfl
            have m5 : u5.cell? ⟨V, 5, none⟩ = some (.slice a1 sh.length c1) := (SV.cell 5).trans rfl
            have m6 : u5.cell? ⟨V, 6, none⟩ = some (.slice a2 ot.length c2) := (SV.cell 6).trans rfl
            have m7 : u5.cell? ⟨V, 7, none⟩ = some (.slice a3 p.length c3) := (SV.cell 7).trans rfl
            have f0 := SV.frozen 0
            have f1 := SV.frozen 1
            have f4 := SV.frozen 4
            have f7 := SV.frozen 7
            have r0 : u5.cell? ⟨V0, 0, none⟩ = some (.int .i64 0) := (RV.cell 0).trans rfl
            have r1 : u5.cell? ⟨V0, 1, none⟩ = some (.int .i64 0) := (RV.cell 1).trans rfl
            have r2 : u5.cell? ⟨V0, 2, none⟩ = some (.int .i64 0) := (RV.cell 2).trans rfl
            have r3 : u5.cell? ⟨V0, 3, none⟩ = some (.int .i64 0) := (RV.cell 3).trans rfl
            have r4 : u5.cell? ⟨V0, 4, none⟩ = some (.int .i64 0) := (RV.cell 4).trans rfl
            have r5 : u5.cell? ⟨V0, 5, none⟩ = some (.slice none 0 0) := (RV.cell 5).trans rfl
            have r6 : u5.cell? ⟨V0, 6, none⟩ = some (.slice none 0 0) := (RV.cell 6).trans rfl
            have r7 : u5.cell? ⟨V0, 7, none⟩ = some (.slice none 0 0) := (RV.cell 7).trans rfl
            have e0 := RV.frozen 0
            have e1 := RV.frozen 1
            have e2 := RV.frozen 2
            have e3 := RV.frozen 3
            have e4 := RV.frozen 4
            have e5 := RV.frozen 5
            have e6 := RV.frozen 6
            have e7 := RV.frozen 7
            have HH := H3.mk (has_of_own OH.one w1) (has_of_own OH.two w2) (has_of_own OH.three w3)
            have HD := Kept9.mk (HH.set8 VW.out)
            have BB := Kept9.mk (below8 (Below.refl V0 u5) (Nat.le_refl V0))
            have NN := Kept9.mk (only8 N5 vw)
            clear SV RV N5 OH HH w1 w2 w3
            go_wp2
            obtain ⟨tq, htq, SQ⟩ : ∃ t', t' ≤ t + 10 ∧ SrcAt u5 B s a len cap zs t' := ⟨_, by omega, S5⟩
            refine bodyPost_ret (v := .agg #[.int .i64 z, .int .i64 r, .int .i64 m, .int .i64 k, .int .i64 i, .slice a1 sh.length c1, .slice a2 ot.length c2, .slice a3 p.length c3]) (by simp [results, Tryz.results41, go_sem, r0, r1, r2, r3, r4, r5, r6, r7, hVV, hVW]) rfl ⟨z, r, m, k, i, a1, a2, a3, c1, c2, c3, sh, ot, p, tq, rfl, ?_, ?_, ?_, ?_, htq, ?_, ?_⟩
            · exact ⟨by omega, by omega, by omega, by omega, by omega⟩
            · exact ⟨Nat.le_of_eq L1.out, Nat.le_of_eq L2.out, by have := L3.out; omega, cap3.out.1, cap3.out.2⟩
            · exact HD.out _ _ _ _ _ _ _ _
            · exact NW.out
            · exact SQ.below' (N := V0) (BB.out _ _ _ _ _ _ _ _) hsV
            · exact NN.out _ _ _ _ _ _ _ _

end Go.Proofs.YtffidkoejlebeaaGreatDoor

namespace Go.Proofs.YtffidkoejlebeaaGreatDoor
open Go.ChangeShapes Go.WideShapes Go.ChangeAt Go.RowKit
set_option maxRecDepth 100000
set_option linter.unusedVariables false
set_option linter.unusedSimpArgs false

theorem H3.below {w w' : World} {a1 a2 a3 : Option Addr} {xs ys zs : List Int} (h : H3 w a1 a2 a3 xs ys zs) (hb : Below w.heap.size w w') : H3 w' a1 a2 a3 xs ys zs := ⟨h.one.below hb (Nat.le_refl _), h.two.below hb (Nat.le_refl _), h.three.below hb (Nat.le_refl _)⟩

theorem has_only9 {w w' : World} {k : IntKind} {a : Option Addr} {len s : Nat} {zs : List Int} (h : Has w k a len zs) (hs : ∀ y, a = some y → s ≠ y.block) (ho : Only s w w') : Has w' k a len zs := by
  refine ⟨h.1, h.2.1, h.2.2.imp id ?_⟩
  rintro ⟨b, off, rfl, hlt, hc⟩
  have := hs _ rfl
  exact ⟨b, off, rfl, Nat.lt_of_lt_of_le hlt ho.size, fun i hi => (ho.cell hlt (Ne.symm this)).trans (hc i hi)⟩

theorem H3.only {w w' : World} {s : Nat} {a1 a2 a3 : Option Addr} {xs ys zs : List Int} (h : H3 w a1 a2 a3 xs ys zs) (n : ∀ y, (a1 = some y ∨ a2 = some y ∨ a3 = some y) → s ≠ y.block) (ho : Only s w w') : H3 w' a1 a2 a3 xs ys zs :=
  ⟨has_only9 h.one (fun y e => n y (.inl e)) ho, has_only9 h.two (fun y e => n y (.inr (.inl e))) ho, has_only9 h.three (fun y e => n y (.inr (.inr e))) ho⟩

theorem has_row9 {w : World} {k : IntKind} {a : Option Addr} {len V : Nat} {zs : List Int} {cs : Array Value} (h : Has w k a len zs) (hV : ∀ y, a = some y → V ≠ y.block) : Has (w.setRow V cs) k a len zs := by
  refine ⟨h.1, h.2.1, h.2.2.imp id ?_⟩
  rintro ⟨b, off, rfl, hlt, hc⟩
  have := hV _ rfl
  exact ⟨b, off, rfl, by simpa [World.setRow] using hlt, fun i hi => (World.cell?_of_block (w := w) (setRow_other w V b cs (Ne.symm this))).trans (hc i hi)⟩

theorem H3.row {w : World} {V : Nat} {cs : Array Value} {a1 a2 a3 : Option Addr} {xs ys zs : List Int} (h : H3 w a1 a2 a3 xs ys zs) (n : ∀ y, (a1 = some y ∨ a2 = some y ∨ a3 = some y) → V ≠ y.block) : H3 (w.setRow V cs) a1 a2 a3 xs ys zs :=
  ⟨has_row9 h.one (fun y e => n y (.inl e)), has_row9 h.two (fun y e => n y (.inr (.inl e))), has_row9 h.three (fun y e => n y (.inr (.inr e)))⟩

theorem has_fresh9 {w w' : World} {k : IntKind} {a : Option Addr} {len V p : Nat} {zs : List Int} (h0 : Has w' k a len zs) (hV : w'.heap.size ≤ V) (h : Has w k a len zs) (u : Value) : Has (w.setCell ⟨V, p, none⟩ u) k a len zs := by
  refine ⟨h.1, h.2.1, ?_⟩
  rcases h0.2.2 with c | ⟨b', off', e', hlt', _⟩
  · exact .inl c
  · refine h.2.2.imp id ?_
    rintro ⟨b, off, rfl, hlt, hc⟩
    simp at e'
    have : V ≠ b := by omega
    exact ⟨b, off, rfl, by simpa using hlt, fun i hi => (World.cell?_of_block (w := w) (Below.heap_setCell w ⟨V, p, none⟩ u b (Ne.symm this))).trans (hc i hi)⟩

theorem H3.fresh {w w' : World} {V p : Nat} {a1 a2 a3 : Option Addr} {xs ys zs : List Int} (h0 : H3 w' a1 a2 a3 xs ys zs) (hV : w'.heap.size ≤ V) (h : H3 w a1 a2 a3 xs ys zs) (u : Value) : H3 (w.setCell ⟨V, p, none⟩ u) a1 a2 a3 xs ys zs :=
  ⟨has_fresh9 h0.one hV h.one u, has_fresh9 h0.two hV h.two u, has_fresh9 h0.three hV h.three u⟩

set_option maxHeartbeats 8000000 in
theorem drawSameSigned_any (w : World) (a : Option Addr) (len cap : Nat) (zs : List Int) (h : Has w .u8 a len zs) (hl : len ≤ 1048576) :
    Calls Tryz.prog 10 #[.slice a len cap] w fun e w' => ∃ (z r m k i m' : Int) (a1 a2 a3 b1 b2 b3 : Option Addr) (c1 c2 c3 d1 d2 d3 : Nat) (sh ot p : List Int), e = .returned (.tuple #[.agg #[.int .i64 z, .int .i64 r, .int .i64 m, .int .i64 k, .int .i64 i, .slice a1 sh.length c1, .slice a2 ot.length c2, .slice a3 p.length c3], .agg #[.int .i64 z, .int .i64 r, .int .i64 m', .int .i64 k, .int .i64 i, .slice b1 sh.length d1, .slice b2 ot.length d2, .slice b3 p.length d3]]) ∧ DrB z r m k i ∧ (m' = m ∨ m' = m + 1) ∧ DrL sh ot p c3 ∧ H3 w' a1 a2 a3 sh ot p ∧ H3 w' b1 b2 b3 sh ot p ∧ Below w.heap.size w w' := by
  obtain ⟨V0, hV0⟩ : ∃ V0, V0 = w.heap.size := ⟨_, rfl⟩
  obtain ⟨V1, hV1⟩ : ∃ V1, V1 = V0 + 1 := ⟨_, rfl⟩
  obtain ⟨E, hE⟩ : ∃ E, E = (w.alloc (.cells #[.int .i64 0, .int .i64 0, .int .i64 0, .int .i64 0, .int .i64 0, .slice none 0 0, .slice none 0 0, .slice none 0 0] 38)).alloc (.cells #[.int .i64 0, .int .i64 0, .int .i64 0, .int .i64 0, .int .i64 0, .slice none 0 0, .slice none 0 0, .slice none 0 0] 38) := ⟨_, rfl⟩
  have RV0 : Blk E V0 #[.int .i64 0, .int .i64 0, .int .i64 0, .int .i64 0, .int .i64 0, .slice none 0 0, .slice none 0 0, .slice none 0 0] 38 := by rw [hE, hV0]; exact (Blk.new _ _ _).below ((Below.refl _ _).alloc (Nat.le_refl _) _) (Blk.new _ _ _).lt
  have RV1 : Blk E V1 #[.int .i64 0, .int .i64 0, .int .i64 0, .int .i64 0, .int .i64 0, .slice none 0 0, .slice none 0 0, .slice none 0 0] 38 := by
    have := Blk.new (w.alloc (.cells #[.int .i64 0, .int .i64 0, .int .i64 0, .int .i64 0, .int .i64 0, .slice none 0 0, .slice none 0 0, .slice none 0 0] 38)) #[.int .i64 0, .int .i64 0, .int .i64 0, .int .i64 0, .int .i64 0, .slice none 0 0, .slice none 0 0, .slice none 0 0] 38
    rw [World.size_alloc] at this
    rw [hE, hV1, hV0]; exact this
  have D : Below w.heap.size w E := by rw [hE]; exact ((Below.refl _ _).alloc (Nat.le_refl _) _).alloc (by simp) _
  have h' := h.below D (Nat.le_refl _)
  have vw : w.heap.size ≤ V0 := by omega
  have vw1 : w.heap.size ≤ V1 := by omega
  have n10 : V1 ≠ V0 := by omega
  have q0 : V0 < E.heap.size := RV0.lt
  have q1 : V1 < E.heap.size := RV1.lt
  clear h
  go_enter Tryz.func10, Tryz.ntmps10
  go_wp2_with fail
  simp only [← hV0, ← hE]
  simp only [← hV1]
  clear hE hV0 hV1
  refine (source_any E a len cap zs h' hl).mono ?_
  rintro e u1 ⟨rfl, S1, hb1, hs1⟩
  replace RV0 := RV0.below hb1 RV0.lt
  replace RV1 := RV1.below hb1 RV1.lt
  have zE := D.size
  replace D := D.trans (hb1.mono D.size)
  obtain ⟨s0, hs0⟩ : ∃ s, s = E.heap.size := ⟨_, rfl⟩
  rw [← hs0] at S1 hs1 q0 q1 ⊢
  have sw : w.heap.size ≤ s0 := by omega
  clear hb1 h' hs0 zE
  have D1 := D.size
  have z1 : s0 < u1.heap.size := hs1
  go_wp2_with fail
  refine (l9BentS_any _ _ _ a len cap zs 0 S1 (by omega)).mono ?_
  rintro e u2 ⟨z, r, m, k, i, a1, a2, a3, c1, c2, c3, sh, ot, p, t', rfl, DB_, DL_, HA, NA, ht', S2, Y2⟩
  have DB := Kept9.mk DB_
  have DL := Kept9.mk DL_
  have mb : -1 ≤ m ∧ m ≤ 65521 := DB_.2.2.1
  have lb : sh.length ≤ 1048576 ∧ ot.length ≤ 1048576 ∧ p.length ≤ 1048576 := by obtain ⟨h1, h2, h3, _⟩ := DL_; omega
  clear DB_ DL_
  replace RV0 := RV0.fr (M := fun k => s0 = k) (.of_grown Y2.grown (fun k e => by simpa using e)) (by omega)
  replace RV1 := RV1.fr (M := fun k => s0 = k) (.of_grown Y2.grown (fun k e => by simpa using e)) (by omega)
  replace D := D.trans (Y2.below sw D.size)
  have z2 := Y2.size
  have NAs : Kept9 (∀ y, (a1 = some y ∨ a2 = some y ∨ a3 = some y) → s0 ≠ y.block) := ⟨fun y e => by have := NA y e; omega⟩
  have NA0 : Kept9 (∀ y, (a1 = some y ∨ a2 = some y ∨ a3 = some y) → V0 ≠ y.block) := ⟨fun y e => by have := NA y e; omega⟩
  have NA1 : Kept9 (∀ y, (a1 = some y ∨ a2 = some y ∨ a3 = some y) → V1 ≠ y.block) := ⟨fun y e => by have := NA y e; omega⟩
  clear S1 Y2 NA
  -- the first one, in memory
  obtain ⟨F, hF⟩ : ∃ F, F = u2.alloc (.cells #[.int .i64 z, .int .i64 r, .int .i64 m, .int .i64 k, .int .i64 i, .slice a1 sh.length c1, .slice a2 ot.length c2, .slice a3 p.length c3] 38) := ⟨_, rfl⟩
  obtain ⟨VA, hVA⟩ : ∃ V, V = u2.heap.size := ⟨_, rfl⟩
  have bF : Below u2.heap.size u2 F := by rw [hF]; exact (Below.refl _ _).alloc (Nat.le_refl _) _
  have SA : Blk F VA #[.int .i64 z, .int .i64 r, .int .i64 m, .int .i64 k, .int .i64 i, .slice a1 sh.length c1, .slice a2 ot.length c2, .slice a3 p.length c3] 38 := by rw [hF, hVA]; exact Blk.new _ _ _
  replace RV0 := RV0.below bF RV0.lt
  replace RV1 := RV1.below bF RV1.lt
  replace HA := HA.below bF
  have S3 := S2.below bF
  replace D := D.trans (bF.mono D.size)
  have nA0 : VA ≠ V0 := by omega
  have nA1 : VA ≠ V1 := by omega
  have nAs : VA ≠ s0 := by omega
  have hsA : s0 < VA := by omega
  have zF := SA.lt
  clear S2 bF
  have CP : Kept9 (Calls Tryz.prog 44 #[.agg #[.int .i64 z, .int .i64 r, .int .i64 m, .int .i64 k, .int .i64 i, .slice a1 sh.length c1, .slice a2 ot.length c2, .slice a3 p.length c3]] F fun e w' => ∃ b1 d1 b2 d2 b3 d3, e = .returned (.agg #[.int .i64 z, .int .i64 r, .int .i64 m, .int .i64 k, .int .i64 i, .slice b1 sh.length d1, .slice b2 ot.length d2, .slice b3 p.length d3]) ∧ OwnH w' F.heap.size b1 b2 b3 d1 d2 d3 sh ot p ∧ Below F.heap.size F w') := ⟨l9Copy_any z r m k i a1 a2 a3 c1 c2 c3 sh ot p F HA.one HA.two HA.three lb.1 lb.2.1 lb.2.2⟩
  have ws1 := Kept9.mk HA.one.2.1
  have ws2 := Kept9.mk HA.two.2.1
  have ws3 := Kept9.mk HA.three.2.1
  have HAk := Kept9.mk HA
  have g0 := SA.cell 0
  have g1 := SA.cell 1
  have g2 := SA.cell 2
  have g3 := SA.cell 3
  have g4 := SA.cell 4
  have g5 := SA.cell 5
  have g6 := SA.cell 6
  have g7 := SA.cell 7
  simp at g0 g1 g2 g3 g4 g5 g6 g7
  clear HA
  go_wp2_with fail
  simp only [← hVA, ← hF]
  clear hF hVA g0 g1 g2 g3 g4 g5 g6 g7
  refine CP.out.mono ?_
  rintro e u4 ⟨b1, d1, b2, d2, b3, d3, rfl, OB, hb4⟩
  have HB : H3 u4 b1 b2 b3 sh ot p := ⟨has_of_own OB.one ws1.out, has_of_own OB.two ws2.out, has_of_own OB.three ws3.out⟩
  have NB : ∀ y, (b1 = some y ∨ b2 = some y ∨ b3 = some y) → F.heap.size ≤ y.block := by
    rintro y (e | e | e)
    · exact own_base OB.one y e
    · exact own_base OB.two y e
    · exact own_base OB.three y e
  have NBs : Kept9 (∀ y, (b1 = some y ∨ b2 = some y ∨ b3 = some y) → s0 ≠ y.block) := ⟨fun y e => by have := NB y e; omega⟩
  have NB0 : Kept9 (∀ y, (b1 = some y ∨ b2 = some y ∨ b3 = some y) → V0 ≠ y.block) := ⟨fun y e => by have := NB y e; omega⟩
  have NB1 : Kept9 (∀ y, (b1 = some y ∨ b2 = some y ∨ b3 = some y) → V1 ≠ y.block) := ⟨fun y e => by have := NB y e; omega⟩
  have HA := HAk.out.below hb4
  replace SA := SA.below hb4 SA.lt
  replace RV0 := RV0.below hb4 RV0.lt
  replace RV1 := RV1.below hb4 RV1.lt
  have S4 := S3.below hb4
  replace D := D.trans (hb4.mono D.size)
  have z4 := hb4.size
  clear CP HAk OB NB ws1 ws2 ws3 S3 hb4
  have HA4 := Kept9.mk HA
  have HB4 := Kept9.mk HB
  -- the copy, in memory
  obtain ⟨G, hG⟩ : ∃ G, G = u4.alloc (.cells #[.int .i64 z, .int .i64 r, .int .i64 m, .int .i64 k, .int .i64 i, .slice b1 sh.length d1, .slice b2 ot.length d2, .slice b3 p.length d3] 38) := ⟨_, rfl⟩
  obtain ⟨VB, hVB⟩ : ∃ V, V = u4.heap.size := ⟨_, rfl⟩
  have bG : Below u4.heap.size u4 G := by rw [hG]; exact (Below.refl _ _).alloc (Nat.le_refl _) _
  have SB : Blk G VB #[.int .i64 z, .int .i64 r, .int .i64 m, .int .i64 k, .int .i64 i, .slice b1 sh.length d1, .slice b2 ot.length d2, .slice b3 p.length d3] 38 := by rw [hG, hVB]; exact Blk.new _ _ _
  replace SA := SA.below bG SA.lt
  replace RV0 := RV0.below bG RV0.lt
  replace RV1 := RV1.below bG RV1.lt
  replace HA := HA.below bG
  replace HB := HB.below bG
  have S5 := S4.below bG
  replace D := D.trans (bG.mono D.size)
  have nB0 : VB ≠ V0 := by omega
  have nB1 : VB ≠ V1 := by omega
  have nBs : VB ≠ s0 := by omega
  have nBA : VB ≠ VA := by omega
  have vB : w.heap.size ≤ VB := by omega
  have VBz := Kept9.mk (Nat.le_of_eq hVB.symm)
  have zG := SB.lt
  clear S4 bG
  go_wp2_with fail
  simp only [← hVB, ← hG]
  clear hG hVB
  refine (chance_any _ _ _ a len cap zs _ 2 S5 (by omega) (by omega) (by omega)).mono ?_
  rintro e u5 ⟨v, rfl, S6, Y6⟩
  replace SA := SA.fr (M := fun k => s0 = k) (.of_grown Y6.grown (fun k e => by simpa using e)) (Ne.symm nAs)
  replace SB := SB.fr (M := fun k => s0 = k) (.of_grown Y6.grown (fun k e => by simpa using e)) (Ne.symm nBs)
  replace RV0 := RV0.fr (M := fun k => s0 = k) (.of_grown Y6.grown (fun k e => by simpa using e)) (by omega)
  replace RV1 := RV1.fr (M := fun k => s0 = k) (.of_grown Y6.grown (fun k e => by simpa using e)) (by omega)
  replace HA := HA.only NAs.out Y6
  replace HB := HB.only NBs.out Y6
  replace D := D.trans (Y6.below sw D.size)
  clear S5 S6 Y6 NAs NBs
  cases v with
  | false =>
    go_wp2_with fail
    obtain ⟨u6, h6⟩ := al_w D
    rw [← h6] at SA SB RV0 RV1 HA HB D
    simp only [← h6]
    clear h6
    obtain ⟨m', hm⟩ : ∃ x, x = m := ⟨_, rfl⟩
    have hm' : m' = m ∨ m' = m + 1 := .inl hm
    rw [← hm] at SB
    clear hm
    refine wp_region_noPanic ?_
    refine wp_region_held_drew (S := fun u => Blk u VA #[.int .i64 z, .int .i64 r, .int .i64 m, .int .i64 k, .int .i64 i, .slice a1 sh.length c1, .slice a2 ot.length c2, .slice a3 p.length c3] 38 ∧ Blk u VB #[.int .i64 z, .int .i64 r, .int .i64 m', .int .i64 k, .int .i64 i, .slice b1 sh.length d1, .slice b2 ot.length d2, .slice b3 p.length d3] 38) (by kernel_rfl) ⟨SA.below (Below.refl _ _).drew SA.lt, SB.below (Below.refl _ _).drew SB.lt⟩ (fun hs => ?_)
    have dr : Below u6.heap.size u6 u6.drew := (Below.refl _ _).drew
    obtain ⟨XD, hXD⟩ := al_w dr
    rw [← hXD] at hs dr
    simp only [← hXD]
    clear hXD
    replace RV0 := RV0.below dr RV0.lt
    replace RV1 := RV1.below dr RV1.lt
    replace HA := HA.below dr
    replace HB := HB.below dr
    replace D := D.trans (dr.mono D.size)
    clear dr SA SB
    refine take_at (i := 0) (d := some 21) (v := ?mv1) rfl rfl (by kernel_rfl) (by kernel_rfl) (by kernel_rfl) (fun _ _ _ h => h) (Or.inl ⟨by rfl, ?my1⟩) hs ?mg1
    case my1 => (intro z hSz; (obtain ⟨ha, hb⟩ := hSz; have e0 := ha.cell 0; have e1 := ha.cell 1; have e2 := ha.cell 2; have e3 := ha.cell 3; have e4 := ha.cell 4; have e5 := ha.cell 5; have e6 := ha.cell 6; have e7 := ha.cell 7; have g0 := hb.cell 0; have g1 := hb.cell 1; have g2 := hb.cell 2; have g3 := hb.cell 3; have g4 := hb.cell 4; have g5 := hb.cell 5; have g6 := hb.cell 6; have g7 := hb.cell 7; have e9 := ha.lt; have g9 := hb.lt; simp at e0 g0 e1 g1 e2 g2 e3 g3 e4 g4 e5 g5 e6 g6 e7 g7); go_simp; (try with_reducible rfl))
    try simp only [Act.put, List.setIfInBounds_toArray, List.set_cons_zero, List.set_cons_succ]
    refine take_at (i := 1) (d := some 22) (v := ?mv2) rfl rfl (by kernel_rfl) (by kernel_rfl) (by kernel_rfl) (fun _ _ _ h => h) (Or.inl ⟨by rfl, ?my2⟩) hs ?mg2
    case my2 => (intro z hSz; (obtain ⟨ha, hb⟩ := hSz; have e0 := ha.cell 0; have e1 := ha.cell 1; have e2 := ha.cell 2; have e3 := ha.cell 3; have e4 := ha.cell 4; have e5 := ha.cell 5; have e6 := ha.cell 6; have e7 := ha.cell 7; have g0 := hb.cell 0; have g1 := hb.cell 1; have g2 := hb.cell 2; have g3 := hb.cell 3; have g4 := hb.cell 4; have g5 := hb.cell 5; have g6 := hb.cell 6; have g7 := hb.cell 7; have e9 := ha.lt; have g9 := hb.lt; simp at e0 g0 e1 g1 e2 g2 e3 g3 e4 g4 e5 g5 e6 g6 e7 g7); go_simp; (try with_reducible rfl))
    try simp only [Act.put, List.setIfInBounds_toArray, List.set_cons_zero, List.set_cons_succ]
    refine wpAnyH_ready (rs := [2]) (by kernel_rfl) (by simp) ?_
    refine AllReadyH.cons rfl (fun K' hK' => ?_) AllReadyH.nil
    refine wp_store_row 38 _ _ rfl V0 #[.int .i64 z, .int .i64 r, .int .i64 m, .int .i64 k, .int .i64 i, .slice a1 sh.length c1, .slice a2 ot.length c2, .slice a3 p.length c3] rfl rfl 38 _ RV0 rfl rfl (by kernel_rfl) ?_
    refine hK'.out _ _ ⟨row_keep nA0 hs.1, row_keep nB0 hs.2⟩ (fun hs => ?_)
    clear hK' K'
    try simp only [Act.put, List.setIfInBounds_toArray, List.set_cons_zero, List.set_cons_succ]
    replace D := below_setRow D vw #[.int .i64 z, .int .i64 r, .int .i64 m, .int .i64 k, .int .i64 i, .slice a1 sh.length c1, .slice a2 ot.length c2, .slice a3 p.length c3]
    replace RV1 := row_keep (cs := #[.int .i64 z, .int .i64 r, .int .i64 m, .int .i64 k, .int .i64 i, .slice a1 sh.length c1, .slice a2 ot.length c2, .slice a3 p.length c3]) n10 RV1
    replace RV0 := row_new (cs := #[.int .i64 z, .int .i64 r, .int .i64 m, .int .i64 k, .int .i64 i, .slice a1 sh.length c1, .slice a2 ot.length c2, .slice a3 p.length c3]) RV0
    replace HA := HA.row (cs := #[.int .i64 z, .int .i64 r, .int .i64 m, .int .i64 k, .int .i64 i, .slice a1 sh.length c1, .slice a2 ot.length c2, .slice a3 p.length c3]) NA0.out
    replace HB := HB.row (cs := #[.int .i64 z, .int .i64 r, .int .i64 m, .int .i64 k, .int .i64 i, .slice a1 sh.length c1, .slice a2 ot.length c2, .slice a3 p.length c3]) NB0.out
    obtain ⟨X1, hX1⟩ := al_w D
    rw [← hX1] at hs D RV0 RV1 HA HB
    simp only [← hX1]
    clear hX1
    refine wpAnyH_ready (rs := [3]) (by kernel_rfl) (by simp) ?_
    refine AllReadyH.cons rfl (fun K' hK' => ?_) AllReadyH.nil
    refine wp_store_row 38 _ _ rfl V1 #[.int .i64 z, .int .i64 r, .int .i64 m', .int .i64 k, .int .i64 i, .slice b1 sh.length d1, .slice b2 ot.length d2, .slice b3 p.length d3] rfl rfl 38 _ RV1 rfl rfl (by kernel_rfl) ?_
    refine hK'.out _ _ ⟨row_keep nA1 hs.1, row_keep nB1 hs.2⟩ (fun hs => ?_)
    clear hK' K'
    try simp only [Act.put, List.setIfInBounds_toArray, List.set_cons_zero, List.set_cons_succ]
    replace D := below_setRow D vw1 #[.int .i64 z, .int .i64 r, .int .i64 m', .int .i64 k, .int .i64 i, .slice b1 sh.length d1, .slice b2 ot.length d2, .slice b3 p.length d3]
    replace RV0 := row_keep (cs := #[.int .i64 z, .int .i64 r, .int .i64 m', .int .i64 k, .int .i64 i, .slice b1 sh.length d1, .slice b2 ot.length d2, .slice b3 p.length d3]) (Ne.symm n10) RV0
    replace RV1 := row_new (cs := #[.int .i64 z, .int .i64 r, .int .i64 m', .int .i64 k, .int .i64 i, .slice b1 sh.length d1, .slice b2 ot.length d2, .slice b3 p.length d3]) RV1
    replace HA := HA.row (cs := #[.int .i64 z, .int .i64 r, .int .i64 m', .int .i64 k, .int .i64 i, .slice b1 sh.length d1, .slice b2 ot.length d2, .slice b3 p.length d3]) NA1.out
    replace HB := HB.row (cs := #[.int .i64 z, .int .i64 r, .int .i64 m', .int .i64 k, .int .i64 i, .slice b1 sh.length d1, .slice b2 ot.length d2, .slice b3 p.length d3]) NB1.out
    obtain ⟨X2, hX2⟩ := al_w D
    rw [← hX2] at hs D RV0 RV1 HA HB
    simp only [← hX2]
    clear hX2
    refine wpAnyH_done (by kernel_rfl) (NoPanic.normal ?_) _
    have k0 := RV0.cell 0
    have k1 := RV0.cell 1
    have k2 := RV0.cell 2
    have k3 := RV0.cell 3
    have k4 := RV0.cell 4
    have k5 := RV0.cell 5
    have k6 := RV0.cell 6
    have k7 := RV0.cell 7
    have j0 := RV1.cell 0
    have j1 := RV1.cell 1
    have j2 := RV1.cell 2
    have j3 := RV1.cell 3
    have j4 := RV1.cell 4
    have j5 := RV1.cell 5
    have j6 := RV1.cell 6
    have j7 := RV1.cell 7
    simp at k0 j0 k1 j1 k2 j2 k3 j3 k4 j4 k5 j5 k6 j6 k7 j7
    have HAk := Kept9.mk HA
    have HBk := Kept9.mk HB
    clear RV0 RV1 HA HB hs
    go_wp2
    refine bodyPost_ret (v := .tuple #[.agg #[.int .i64 z, .int .i64 r, .int .i64 m, .int .i64 k, .int .i64 i, .slice a1 sh.length c1, .slice a2 ot.length c2, .slice a3 p.length c3], .agg #[.int .i64 z, .int .i64 r, .int .i64 m', .int .i64 k, .int .i64 i, .slice b1 sh.length d1, .slice b2 ot.length d2, .slice b3 p.length d3]]) (by simp [results, Tryz.results10, go_sem, k0, j0, k1, j1, k2, j2, k3, j3, k4, j4, k5, j5, k6, j6, k7, j7]) rfl ⟨z, r, m, k, i, m', a1, a2, a3, b1, b2, b3, c1, c2, c3, d1, d2, d3, sh, ot, p, rfl, DB.out, hm', DL.out, HAk.out, HBk.out, D⟩
  | true =>
    have wm : IntKind.i64.wrap (m + 1) = m + 1 := by simp [IntKind.wrap, IntKind.bits, IntKind.signed]; omega
    have g2 := SB.cell 2
    have f2 := SB.frozen 2
    simp at g2
    go_wp2_with fail
    replace HA := HA4.out.fresh VBz.out HA (p := 2) (.int .i64 (m + 1))
    replace HB := HB4.out.fresh VBz.out HB (p := 2) (.int .i64 (m + 1))
    have FS : Fr (fun q => q = VB) u5 (u5.setCell ⟨VB, 2, none⟩ (.int .i64 (m + 1))) := Fr.setCell (Fr.refl _ _) ⟨VB, 2, none⟩ (.int .i64 (m + 1)) rfl
    replace SA := SA.fr FS (Ne.symm nBA)
    replace RV0 := RV0.fr FS (Ne.symm nB0)
    replace RV1 := RV1.fr FS (Ne.symm nB1)
    replace SB := SB.set 2 (.int .i64 (m + 1))
    replace D := D.setCell (p := ⟨VB, 2, none⟩) vB (.int .i64 (m + 1))
    obtain ⟨u6, h6⟩ := al_w D
    rw [← h6] at SA SB RV0 RV1 HA HB D
    simp only [← h6]
    clear h6 FS g2 f2 wm
    obtain ⟨m', hm⟩ : ∃ x, x = m + 1 := ⟨_, rfl⟩
    have hm' : m' = m ∨ m' = m + 1 := .inr hm
    replace SB : Blk u6 VB #[.int .i64 z, .int .i64 r, .int .i64 m', .int .i64 k, .int .i64 i, .slice b1 sh.length d1, .slice b2 ot.length d2, .slice b3 p.length d3] 38 := by rw [hm]; exact SB
    clear hm
    refine wp_region_noPanic ?_
    refine wp_region_held_drew (S := fun u => Blk u VA #[.int .i64 z, .int .i64 r, .int .i64 m, .int .i64 k, .int .i64 i, .slice a1 sh.length c1, .slice a2 ot.length c2, .slice a3 p.length c3] 38 ∧ Blk u VB #[.int .i64 z, .int .i64 r, .int .i64 m', .int .i64 k, .int .i64 i, .slice b1 sh.length d1, .slice b2 ot.length d2, .slice b3 p.length d3] 38) (by kernel_rfl) ⟨SA.below (Below.refl _ _).drew SA.lt, SB.below (Below.refl _ _).drew SB.lt⟩ (fun hs => ?_)
    have dr : Below u6.heap.size u6 u6.drew := (Below.refl _ _).drew
    obtain ⟨XD, hXD⟩ := al_w dr
    rw [← hXD] at hs dr
    simp only [← hXD]
    clear hXD
    replace RV0 := RV0.below dr RV0.lt
    replace RV1 := RV1.below dr RV1.lt
    replace HA := HA.below dr
    replace HB := HB.below dr
    replace D := D.trans (dr.mono D.size)
    clear dr SA SB
    refine take_at (i := 0) (d := some 21) (v := ?mv3) rfl rfl (by kernel_rfl) (by kernel_rfl) (by kernel_rfl) (fun _ _ _ h => h) (Or.inl ⟨by rfl, ?my3⟩) hs ?mg3
    case my3 => (intro z hSz; (obtain ⟨ha, hb⟩ := hSz; have e0 := ha.cell 0; have e1 := ha.cell 1; have e2 := ha.cell 2; have e3 := ha.cell 3; have e4 := ha.cell 4; have e5 := ha.cell 5; have e6 := ha.cell 6; have e7 := ha.cell 7; have g0 := hb.cell 0; have g1 := hb.cell 1; have g2 := hb.cell 2; have g3 := hb.cell 3; have g4 := hb.cell 4; have g5 := hb.cell 5; have g6 := hb.cell 6; have g7 := hb.cell 7; have e9 := ha.lt; have g9 := hb.lt; simp at e0 g0 e1 g1 e2 g2 e3 g3 e4 g4 e5 g5 e6 g6 e7 g7); go_simp; (try with_reducible rfl))
    try simp only [Act.put, List.setIfInBounds_toArray, List.set_cons_zero, List.set_cons_succ]
    refine take_at (i := 1) (d := some 22) (v := ?mv4) rfl rfl (by kernel_rfl) (by kernel_rfl) (by kernel_rfl) (fun _ _ _ h => h) (Or.inl ⟨by rfl, ?my4⟩) hs ?mg4
    case my4 => (intro z hSz; (obtain ⟨ha, hb⟩ := hSz; have e0 := ha.cell 0; have e1 := ha.cell 1; have e2 := ha.cell 2; have e3 := ha.cell 3; have e4 := ha.cell 4; have e5 := ha.cell 5; have e6 := ha.cell 6; have e7 := ha.cell 7; have g0 := hb.cell 0; have g1 := hb.cell 1; have g2 := hb.cell 2; have g3 := hb.cell 3; have g4 := hb.cell 4; have g5 := hb.cell 5; have g6 := hb.cell 6; have g7 := hb.cell 7; have e9 := ha.lt; have g9 := hb.lt; simp at e0 g0 e1 g1 e2 g2 e3 g3 e4 g4 e5 g5 e6 g6 e7 g7); go_simp; (try with_reducible rfl))
    try simp only [Act.put, List.setIfInBounds_toArray, List.set_cons_zero, List.set_cons_succ]
    refine wpAnyH_ready (rs := [2]) (by kernel_rfl) (by simp) ?_
    refine AllReadyH.cons rfl (fun K' hK' => ?_) AllReadyH.nil
    refine wp_store_row 38 _ _ rfl V0 #[.int .i64 z, .int .i64 r, .int .i64 m, .int .i64 k, .int .i64 i, .slice a1 sh.length c1, .slice a2 ot.length c2, .slice a3 p.length c3] rfl rfl 38 _ RV0 rfl rfl (by kernel_rfl) ?_
    refine hK'.out _ _ ⟨row_keep nA0 hs.1, row_keep nB0 hs.2⟩ (fun hs => ?_)
    clear hK' K'
    try simp only [Act.put, List.setIfInBounds_toArray, List.set_cons_zero, List.set_cons_succ]
    replace D := below_setRow D vw #[.int .i64 z, .int .i64 r, .int .i64 m, .int .i64 k, .int .i64 i, .slice a1 sh.length c1, .slice a2 ot.length c2, .slice a3 p.length c3]
    replace RV1 := row_keep (cs := #[.int .i64 z, .int .i64 r, .int .i64 m, .int .i64 k, .int .i64 i, .slice a1 sh.length c1, .slice a2 ot.length c2, .slice a3 p.length c3]) n10 RV1
    replace RV0 := row_new (cs := #[.int .i64 z, .int .i64 r, .int .i64 m, .int .i64 k, .int .i64 i, .slice a1 sh.length c1, .slice a2 ot.length c2, .slice a3 p.length c3]) RV0
    replace HA := HA.row (cs := #[.int .i64 z, .int .i64 r, .int .i64 m, .int .i64 k, .int .i64 i, .slice a1 sh.length c1, .slice a2 ot.length c2, .slice a3 p.length c3]) NA0.out
    replace HB := HB.row (cs := #[.int .i64 z, .int .i64 r, .int .i64 m, .int .i64 k, .int .i64 i, .slice a1 sh.length c1, .slice a2 ot.length c2, .slice a3 p.length c3]) NB0.out
    obtain ⟨X1, hX1⟩ := al_w D
    rw [← hX1] at hs D RV0 RV1 HA HB
    simp only [← hX1]
    clear hX1
    refine wpAnyH_ready (rs := [3]) (by kernel_rfl) (by simp) ?_
    refine AllReadyH.cons rfl (fun K' hK' => ?_) AllReadyH.nil
    refine wp_store_row 38 _ _ rfl V1 #[.int .i64 z, .int .i64 r, .int .i64 m', .int .i64 k, .int .i64 i, .slice b1 sh.length d1, .slice b2 ot.length d2, .slice b3 p.length d3] rfl rfl 38 _ RV1 rfl rfl (by kernel_rfl) ?_
    refine hK'.out _ _ ⟨row_keep nA1 hs.1, row_keep nB1 hs.2⟩ (fun hs => ?_)
    clear hK' K'
    try simp only [Act.put, List.setIfInBounds_toArray, List.set_cons_zero, List.set_cons_succ]
    replace D := below_setRow D vw1 #[.int .i64 z, .int .i64 r, .int .i64 m', .int .i64 k, .int .i64 i, .slice b1 sh.length d1, .slice b2 ot.length d2, .slice b3 p.length d3]
    replace RV0 := row_keep (cs := #[.int .i64 z, .int .i64 r, .int .i64 m', .int .i64 k, .int .i64 i, .slice b1 sh.length d1, .slice b2 ot.length d2, .slice b3 p.length d3]) (Ne.symm n10) RV0
    replace RV1 := row_new (cs := #[.int .i64 z, .int .i64 r, .int .i64 m', .int .i64 k, .int .i64 i, .slice b1 sh.length d1, .slice b2 ot.length d2, .slice b3 p.length d3]) RV1
    replace HA := HA.row (cs := #[.int .i64 z, .int .i64 r, .int .i64 m', .int .i64 k, .int .i64 i, .slice b1 sh.length d1, .slice b2 ot.length d2, .slice b3 p.length d3]) NA1.out
    replace HB := HB.row (cs := #[.int .i64 z, .int .i64 r, .int .i64 m', .int .i64 k, .int .i64 i, .slice b1 sh.length d1, .slice b2 ot.length d2, .slice b3 p.length d3]) NB1.out
    obtain ⟨X2, hX2⟩ := al_w D
    rw [← hX2] at hs D RV0 RV1 HA HB
    simp only [← hX2]
    clear hX2
    refine wpAnyH_done (by kernel_rfl) (NoPanic.normal ?_) _
    have k0 := RV0.cell 0
    have k1 := RV0.cell 1
    have k2 := RV0.cell 2
    have k3 := RV0.cell 3
    have k4 := RV0.cell 4
    have k5 := RV0.cell 5
    have k6 := RV0.cell 6
    have k7 := RV0.cell 7
    have j0 := RV1.cell 0
    have j1 := RV1.cell 1
    have j2 := RV1.cell 2
    have j3 := RV1.cell 3
    have j4 := RV1.cell 4
    have j5 := RV1.cell 5
    have j6 := RV1.cell 6
    have j7 := RV1.cell 7
    simp at k0 j0 k1 j1 k2 j2 k3 j3 k4 j4 k5 j5 k6 j6 k7 j7
    have HAk := Kept9.mk HA
    have HBk := Kept9.mk HB
    clear RV0 RV1 HA HB hs
    go_wp2
    refine bodyPost_ret (v := .tuple #[.agg #[.int .i64 z, .int .i64 r, .int .i64 m, .int .i64 k, .int .i64 i, .slice a1 sh.length c1, .slice a2 ot.length c2, .slice a3 p.length c3], .agg #[.int .i64 z, .int .i64 r, .int .i64 m', .int .i64 k, .int .i64 i, .slice b1 sh.length d1, .slice b2 ot.length d2, .slice b3 p.length d3]]) (by simp [results, Tryz.results10, go_sem, k0, j0, k1, j1, k2, j2, k3, j3, k4, j4, k5, j5, k6, j6, k7, j7]) rfl ⟨z, r, m, k, i, m', a1, a2, a3, b1, b2, b3, c1, c2, c3, d1, d2, d3, sh, ot, p, rfl, DB.out, hm', DL.out, HAk.out, HBk.out, D⟩

end Go.Proofs.YtffidkoejlebeaaGreatDoor

namespace Go.Proofs.YtffidkoejlebeaaGreatDoor
open Go.ChangeShapes Go.WideShapes Go.ChangeAt Go.RowKit
set_option maxRecDepth 100000
set_option linter.unusedVariables false
set_option linter.unusedSimpArgs false

theorem blk_set8 {W : World} {b T : Nat} {v0 v1 v2 v3 v4 v5 v6 v7 : Value} (h : Blk W b #[v0, v1, v2, v3, v4, v5, v6, v7] T) (x0 x1 x2 x3 x4 x5 x6 x7 : Value) : Blk ((((((((W.setCell ⟨b, 0, none⟩ x0).setCell ⟨b, 1, none⟩ x1).setCell ⟨b, 2, none⟩ x2).setCell ⟨b, 3, none⟩ x3).setCell ⟨b, 4, none⟩ x4).setCell ⟨b, 5, none⟩ x5).setCell ⟨b, 6, none⟩ x6).setCell ⟨b, 7, none⟩ x7) b #[x0, x1, x2, x3, x4, x5, x6, x7] T := by
  have := (((((((h.set 0 x0).set 1 x1).set 2 x2).set 3 x3).set 4 x4).set 5 x5).set 6 x6).set 7 x7
  simpa using this

theorem blk_other8 {W : World} {b q T : Nat} {cs : Array Value} (h : Blk W q cs T) (n : q ≠ b) (x0 x1 x2 x3 x4 x5 x6 x7 : Value) : Blk ((((((((W.setCell ⟨b, 0, none⟩ x0).setCell ⟨b, 1, none⟩ x1).setCell ⟨b, 2, none⟩ x2).setCell ⟨b, 3, none⟩ x3).setCell ⟨b, 4, none⟩ x4).setCell ⟨b, 5, none⟩ x5).setCell ⟨b, 6, none⟩ x6).setCell ⟨b, 7, none⟩ x7) q cs T := by
  have f : ∀ {X : World} (j : Nat) (x : Value), Blk X q cs T → Blk (X.setCell ⟨b, j, none⟩ x) q cs T := fun {X} j x hX => hX.fr (M := fun y => y = b) (Fr.setCell (Fr.refl _ _) ⟨b, j, none⟩ x rfl) n
  exact f 7 x7 (f 6 x6 (f 5 x5 (f 4 x4 (f 3 x3 (f 2 x2 (f 1 x1 (f 0 x0 h)))))))

set_option maxHeartbeats 8000000 in
theorem drawCheckHead_any (w : World) (a : Option Addr) (len cap : Nat) (zs : List Int) (h : Has w .u8 a len zs) (hl : len ≤ 1048576) :
    Calls Tryz.prog 9 #[.slice a len cap] w fun e w' => ∃ (rt ct z r m k i : Int) (a1 a2 a3 : Option Addr) (c1 c2 c3 : Nat) (sh ot p : List Int), e = .returned (.tuple #[.int .i64 rt, .int .i64 ct, .agg #[.int .i64 z, .int .i64 r, .int .i64 m, .int .i64 k, .int .i64 i, .slice a1 sh.length c1, .slice a2 ot.length c2, .slice a3 p.length c3]]) ∧ (0 ≤ rt ∧ rt ≤ 65520) ∧ (4 ≤ ct ∧ ct ≤ 9) ∧ DrB z r m k i ∧ DrL sh ot p c3 ∧ H3 w' a1 a2 a3 sh ot p ∧ Below w.heap.size w w' := by
  obtain ⟨V0, hV0⟩ : ∃ V0, V0 = w.heap.size := ⟨_, rfl⟩
  obtain ⟨E, hE⟩ : ∃ E, E = w.alloc (.cells #[.int .i64 0, .int .i64 0, .int .i64 0, .int .i64 0, .int .i64 0, .slice none 0 0, .slice none 0 0, .slice none 0 0] 38) := ⟨_, rfl⟩
  have RV0 : Blk E V0 #[.int .i64 0, .int .i64 0, .int .i64 0, .int .i64 0, .int .i64 0, .slice none 0 0, .slice none 0 0, .slice none 0 0] 38 := by rw [hE, hV0]; exact Blk.new _ _ _
  have D : Below w.heap.size w E := by rw [hE]; exact (Below.refl _ _).alloc (Nat.le_refl _) _
  have h' := h.below D (Nat.le_refl _)
  have vw : w.heap.size ≤ V0 := by omega
  have q0 : V0 < E.heap.size := RV0.lt
  clear h
  go_enter Tryz.func9, Tryz.ntmps9
  go_wp2_with fail
  simp only [← hV0, ← hE]
  clear hE hV0
  refine (source_any E a len cap zs h' hl).mono ?_
  rintro e u1 ⟨rfl, S1, hb1, hs1⟩
  replace RV0 := RV0.below hb1 RV0.lt
  replace D := D.trans (hb1.mono D.size)
  obtain ⟨s0, hs0⟩ : ∃ s, s = E.heap.size := ⟨_, rfl⟩
  rw [← hs0] at S1 hs1 q0 ⊢
  have sw : w.heap.size ≤ s0 := by omega
  clear hb1 h' hs0
  go_wp2_with fail
  refine (next_any _ _ _ a len cap zs 0 3 S1 (by omega) (by omega) (by omega)).mono ?_
  rintro e u2 ⟨sd, rfl, sd0, sd1, S2, Y2⟩
  go_wp2_with fail
  refine (l9Draw_any _ _ _ a len cap zs _ S2 (by omega)).mono ?_
  rintro e u3 ⟨z, r, m, k, rfl, z0, z1, b0, b1, d0, d1, k0, k1, S3, Y3⟩
  have Y23 := Y2.trans Y3
  replace RV0 := RV0.fr (M := fun k => s0 = k) (.of_grown Y23.grown (fun k e => by simpa using e)) (by omega)
  replace D := D.trans (Y23.below sw D.size)
  have z3 : s0 < u3.heap.size := Nat.lt_of_lt_of_le hs1 Y23.size
  have hB : hdB z r m k = true := hdB_iff.2 (by omega)
  clear S1 S2 Y2 Y3 Y23 hs1
  go_wp2_with fail
  refine (l9Sign_any sd 5 z r m k _ hB (by omega) (by omega) (by omega)).mono ?_
  rintro e u4 ⟨a1, c1, a2, c2, a3, c3, rfl, OH, hb4⟩
  have l1_ : (shW sd k (hdV z r m k) (List.range 16)).length = 16 := by rw [shW_len]; simp
  have l2_ : (otW sd k (hdV z r m k) (List.range 16)).length = 16 := by rw [otW_len]; simp
  have w1 := allS_wf (shW_all sd k (hdV z r m k) (List.range 16))
  have w2 := allS_wf (otW_all sd k (hdV z r m k) (List.range 16))
  have l3_ : (ptM nS 11 (keysL sd 5) k).length ≤ 5 := by have := ptM_len nS 11 _ (keysL sd 5) k (Nat.le_refl _); have := keysL_len sd 5; omega
  have w3 := allS_wf (ptM_all _ (keysL sd 5) k (Nat.le_refl _) (keysL_all sd 5))
  generalize shW sd k (hdV z r m k) (List.range 16) = sh at *
  generalize otW sd k (hdV z r m k) (List.range 16) = ot at *
  generalize ptM nS 11 (keysL sd 5) k = p at *
  have HA : H3 u4 a1 a2 a3 sh ot p := ⟨has_of_own OH.one w1, has_of_own OH.two w2, has_of_own OH.three w3⟩
  have cp3 := own_caps9 OH.three
  obtain ⟨i, hik⟩ : ∃ i, i = k := ⟨_, rfl⟩
  rw [show (#[.int .i64 z, .int .i64 r, .int .i64 m, .int .i64 k, .int .i64 k, .slice a1 sh.length c1, .slice a2 ot.length c2, .slice a3 p.length c3] : Array Value) = #[.int .i64 z, .int .i64 r, .int .i64 m, .int .i64 k, .int .i64 i, .slice a1 sh.length c1, .slice a2 ot.length c2, .slice a3 p.length c3] by rw [hik]]
  have DB : Kept9 (DrB z r m k i) := ⟨⟨by omega, by omega, by omega, by omega, by omega⟩⟩
  have DL : Kept9 (DrL sh ot p c3) := ⟨⟨by omega, by omega, by omega, cp3.1, cp3.2⟩⟩
  have NA : ∀ y, (a1 = some y ∨ a2 = some y ∨ a3 = some y) → u3.heap.size ≤ y.block := by
    rintro y (e | e | e)
    · exact own_base OH.one y e
    · exact own_base OH.two y e
    · exact own_base OH.three y e
  have NAs : Kept9 (∀ y, (a1 = some y ∨ a2 = some y ∨ a3 = some y) → s0 ≠ y.block) := ⟨fun y e => by have := NA y e; omega⟩
  have NA0 : Kept9 (∀ y, (a1 = some y ∨ a2 = some y ∨ a3 = some y) → V0 ≠ y.block) := ⟨fun y e => by have := NA y e; omega⟩
  replace RV0 := RV0.below hb4 RV0.lt
  have S4 := S3.below hb4
  replace D := D.trans (hb4.mono D.size)
  have z4 := hb4.size
  clear OH w1 w2 w3 l1_ l2_ l3_ cp3 hik NA S3 hb4 hB
  obtain ⟨F, hF⟩ : ∃ F, F = u4.alloc (.cells #[.int .i64 z, .int .i64 r, .int .i64 m, .int .i64 k, .int .i64 i, .slice a1 sh.length c1, .slice a2 ot.length c2, .slice a3 p.length c3] 38) := ⟨_, rfl⟩
  obtain ⟨VG, hVG⟩ : ∃ V, V = u4.heap.size := ⟨_, rfl⟩
  have bF : Below u4.heap.size u4 F := by rw [hF]; exact (Below.refl _ _).alloc (Nat.le_refl _) _
  have SG : Blk F VG #[.int .i64 z, .int .i64 r, .int .i64 m, .int .i64 k, .int .i64 i, .slice a1 sh.length c1, .slice a2 ot.length c2, .slice a3 p.length c3] 38 := by rw [hF, hVG]; exact Blk.new _ _ _
  replace RV0 := RV0.below bF RV0.lt
  replace HA := HA.below bF
  have S5 := S4.below bF
  replace D := D.trans (bF.mono D.size)
  have hsG : s0 < VG := by omega
  have nG0 : VG ≠ V0 := by omega
  have vG : w.heap.size ≤ VG := by omega
  have hsV0 : s0 ≠ V0 := by omega
  have V0G : s0 + 1 ≤ VG := by omega
  clear S4 bF
  go_wp2_with fail
  simp only [← hVG, ← hF]
  clear hF hVG
  refine (chance_any _ _ _ a len cap zs _ 3 S5 (by omega) (by omega) (by omega)).mono ?_
  rintro e u5 ⟨v, rfl, S6, Y6⟩
  replace SG := SG.fr (M := fun k => s0 = k) (.of_grown Y6.grown (fun k e => by simpa using e)) (by omega)
  replace RV0 := RV0.fr (M := fun k => s0 = k) (.of_grown Y6.grown (fun k e => by simpa using e)) (by omega)
  replace HA := HA.only NAs.out Y6
  replace D := D.trans (Y6.below sw D.size)
  clear S5 Y6 z4 z3
  have RT : Kept9 (∀ (u : World) (x : Option Addr) (c : Nat), Has u .i64 x (keysL sd 5).length (keysL sd 5) → (keysL sd 5).length ≤ c → c ≤ maxLen → Calls Tryz.prog 42 #[.slice x (keysL sd 5).length c] u fun r w' => r = .returned (.int .i64 (rtM nS 11 (keysL sd 5))) ∧ Below u.heap.size u w') := ⟨fun u x c h1 h2 h3 => l4Root_any _ x c (keysL sd 5) u (Nat.le_refl _) (by rw [keysL_len]; omega) (keysL_all sd 5) h1 h2 h3⟩
  have KK : Kept9 (∀ u : World, Calls Tryz.prog 43 #[.int .i64 sd, .int .i64 5] u fun r w' => ∃ a' c', r = .returned (.slice a' (keysL sd 5).length c') ∧ OwnN w' u.heap.size (.slice a' (keysL sd 5).length c') (keysL sd 5) ∧ Below u.heap.size u w') := ⟨fun u => l8Keys_any sd 5 u (by omega) (by omega)⟩
  have KW : Kept9 (∀ y ∈ keysL sd 5, (Lit.int .i64 y).wf = true) := ⟨allS_wf (keysL_all sd 5)⟩
  have RB : Kept9 (0 ≤ rtM nS 11 (keysL sd 5) ∧ rtM nS 11 (keysL sd 5) ≤ 65520) := ⟨rtM_bd _ _ (Nat.le_refl _) (keysL_all sd 5)⟩
  generalize rtM nS 11 (keysL sd 5) = rt at *
  generalize keysL sd 5 = K at *
  cases v with
  | false =>
    go_wp2_with fail
    obtain ⟨u6, h6⟩ := al_w D
    rw [← h6] at SG RV0 HA D S6
    simp only [← h6]
    clear h6
    refine wp_region_noPanic ?_
    refine wp_region_held_drew (S := fun u => Blk u VG #[.int .i64 z, .int .i64 r, .int .i64 m, .int .i64 k, .int .i64 i, .slice a1 sh.length c1, .slice a2 ot.length c2, .slice a3 p.length c3] 38) (by kernel_rfl) (SG.below (Below.refl _ _).drew SG.lt) (fun hs => ?_)
    have dr : Below u6.heap.size u6 u6.drew := (Below.refl _ _).drew
    obtain ⟨XD, hXD⟩ := al_w dr
    rw [← hXD] at hs dr
    simp only [← hXD]
    clear hXD
    replace RV0 := RV0.below dr RV0.lt
    replace HA := HA.below dr
    have SS := S6.below dr
    replace D := D.trans (dr.mono D.size)
    clear dr SG S6
    refine take_at (i := 0) (d := some 20) (v := ?mv1) rfl rfl (by kernel_rfl) (by kernel_rfl) (by kernel_rfl) (fun _ _ _ h => h) (Or.inl ⟨by rfl, ?my1⟩) hs ?mg1
    case my1 => (intro z hSz; (have e0 := hSz.cell 0; have e1 := hSz.cell 1; have e2 := hSz.cell 2; have e3 := hSz.cell 3; have e4 := hSz.cell 4; have e5 := hSz.cell 5; have e6 := hSz.cell 6; have e7 := hSz.cell 7; have e9 := hSz.lt; simp at e0 e1 e2 e3 e4 e5 e6 e7); go_simp; (try with_reducible rfl))
    try simp only [Act.put, List.setIfInBounds_toArray, List.set_cons_zero, List.set_cons_succ]
    refine take_at (i := 3) (d := some 23) (v := ?mv2) rfl rfl (by kernel_rfl) (by kernel_rfl) (by kernel_rfl) (fun _ _ _ h => h) (Or.inl ⟨by rfl, ?my2⟩) hs ?mg2
    case my2 => (intro z hSz; (have e0 := hSz.cell 0; have e1 := hSz.cell 1; have e2 := hSz.cell 2; have e3 := hSz.cell 3; have e4 := hSz.cell 4; have e5 := hSz.cell 5; have e6 := hSz.cell 6; have e7 := hSz.cell 7; have e9 := hSz.lt; simp at e0 e1 e2 e3 e4 e5 e6 e7); go_simp; (try with_reducible rfl))
    try simp only [Act.put, List.setIfInBounds_toArray, List.set_cons_zero, List.set_cons_succ]
    refine take_at (i := 6) (d := some 26) (v := ?mv3) rfl rfl (by kernel_rfl) (by kernel_rfl) (by kernel_rfl) (fun _ _ _ h => h) (Or.inl ⟨by rfl, ?my3⟩) hs ?mg3
    case my3 => (intro z hSz; (have e0 := hSz.cell 0; have e1 := hSz.cell 1; have e2 := hSz.cell 2; have e3 := hSz.cell 3; have e4 := hSz.cell 4; have e5 := hSz.cell 5; have e6 := hSz.cell 6; have e7 := hSz.cell 7; have e9 := hSz.lt; simp at e0 e1 e2 e3 e4 e5 e6 e7); go_simp; (try with_reducible rfl))
    try simp only [Act.put, List.setIfInBounds_toArray, List.set_cons_zero, List.set_cons_succ]
    refine wpAnyH_ready (rs := [1, 4]) (by kernel_rfl) (by simp) ?_
    refine AllReadyH.cons rfl (fun K' hK' => ?_) (AllReadyH.cons rfl (fun K' hK' => ?_) AllReadyH.nil)
    · go_simp
      refine (KK.out _).mono ?_
      rintro _ ua ⟨ak, ck, rfl, KO, hba⟩
      refine hK'.out _ _ (hs.below hba hs.lt) (fun hs => ?_)
      clear hK' K'
      try simp only [Act.put, List.setIfInBounds_toArray, List.set_cons_zero, List.set_cons_succ]
      replace RV0 := RV0.below hba RV0.lt
      replace HA := HA.below hba
      replace SS := SS.below hba
      replace D := D.trans (hba.mono D.size)
      (try replace PB := PB.below hba PB.lt)
      have KH := has_of_own KO KW.out
      have KC := Kept9.mk (own_caps9 KO)
      clear KO hba
      refine wpAnyH_ready (rs := [2, 4]) (by kernel_rfl) (by simp) ?_
      refine AllReadyH.cons rfl (fun K' hK' => ?_) (AllReadyH.cons rfl (fun K' hK' => ?_) AllReadyH.nil)
      · go_simp
        refine (RT.out _ ak ck KH KC.out.1 KC.out.2).mono ?_
        rintro _ ub ⟨rfl, hbb⟩
        refine hK'.out _ _ (hs.below hbb hs.lt) (fun hs => ?_)
        clear hK' K'
        try simp only [Act.put, List.setIfInBounds_toArray, List.set_cons_zero, List.set_cons_succ]
        replace RV0 := RV0.below hbb RV0.lt
        replace HA := HA.below hbb
        replace SS := SS.below hbb
        replace D := D.trans (hbb.mono D.size)
        (try replace PB := PB.below hbb PB.lt)
        clear hbb KH KC
        refine wpAnyH_ready (rs := [4]) (by kernel_rfl) (by simp) ?_
        refine AllReadyH.cons rfl (fun K' hK' => ?_) AllReadyH.nil
        have nG := SS.lt
        go_simp
        refine hK'.out _ _ (hs.below ((Below.refl _ _).alloc (Nat.le_refl _) _) hs.lt) (fun hs => ?_)
        clear hK' K'
        try simp only [Act.put, List.setIfInBounds_toArray, List.set_cons_zero, List.set_cons_succ]
        have PB := al_blk (SBX9 hs)
        replace RV0 := al_keep (SBX9 hs) RV0
        replace HA := HA.below ((Below.refl _ _).alloc (Nat.le_refl _) (.cells #[.int .i64 5, .int .i64 5, .int .i64 5, .int .i64 4, .int .i64 9] 2))
        (try replace KH := KH.alloc (.cells #[.int .i64 5, .int .i64 5, .int .i64 5, .int .i64 4, .int .i64 9] 2))
        replace SS := SS.alloc (.cells #[.int .i64 5, .int .i64 5, .int .i64 5, .int .i64 4, .int .i64 9] 2)
        replace D := D.alloc D.size (.cells #[.int .i64 5, .int .i64 5, .int .i64 5, .int .i64 4, .int .i64 9] 2)
        obtain ⟨A6, h6⟩ := al_w D
        rw [← h6] at hs PB RV0 HA SS D
        (try rw [← h6] at KH)
        simp only [← h6]
        clear h6
        obtain ⟨G, hG⟩ := al_b PB
        rw [← hG] at PB nG
        simp only [← hG]
        clear hG
        have gs : G ≠ s0 := by omega
        refine wpAnyH_ready (rs := [5]) (by kernel_rfl) (by simp) ?_
        refine AllReadyH.cons rfl (fun K' hK' => ?_) AllReadyH.nil
        go_simp
        refine (pick_any _ _ s0 a len cap zs _ SS (by omega) G [5, 5, 5, 4, 9] 5 rfl PB.lt gs (by omega) (by omega) 5 (blk_nums9 PB rfl)).mono ?_
        rintro _ uc ⟨ct, rfl, hp, SA, Ya⟩
        refine hK'.out _ _ (hs.fr (M := fun k => s0 = k) (.of_grown Ya.grown (fun k e => by simpa using e)) (Nat.ne_of_lt hsG)) (fun hs => ?_)
        clear hK' K'
        try simp only [Act.put, List.setIfInBounds_toArray, List.set_cons_zero, List.set_cons_succ]
        replace RV0 := RV0.fr (M := fun k => s0 = k) (.of_grown Ya.grown (fun k e => by simpa using e)) hsV0
        replace HA := HA.only NAs.out Ya
        replace D := D.trans (Ya.below sw D.size)
        clear SS PB SA Ya nG gs
        have hct : 4 ≤ ct ∧ ct ≤ 9 := by simp at hp; omega
        clear hp
        refine take_at (i := 7) (d := some 2) (v := ?mv4) rfl rfl (by kernel_rfl) (by kernel_rfl) (by kernel_rfl) (fun _ _ _ h => h) (Or.inl ⟨by rfl, ?my4⟩) hs ?mg4
        case my4 => (intro z hSz; (have e0 := hSz.cell 0; have e1 := hSz.cell 1; have e2 := hSz.cell 2; have e3 := hSz.cell 3; have e4 := hSz.cell 4; have e5 := hSz.cell 5; have e6 := hSz.cell 6; have e7 := hSz.cell 7; have e9 := hSz.lt; simp at e0 e1 e2 e3 e4 e5 e6 e7); go_simp; (try with_reducible rfl))
        try simp only [Act.put, List.setIfInBounds_toArray, List.set_cons_zero, List.set_cons_succ]
        refine take_at (i := 8) (d := some 3) (v := ?mv5) rfl rfl (by kernel_rfl) (by kernel_rfl) (by kernel_rfl) (fun _ _ _ h => h) (Or.inl ⟨by rfl, ?my5⟩) hs ?mg5
        case my5 => (intro z hSz; (have e0 := hSz.cell 0; have e1 := hSz.cell 1; have e2 := hSz.cell 2; have e3 := hSz.cell 3; have e4 := hSz.cell 4; have e5 := hSz.cell 5; have e6 := hSz.cell 6; have e7 := hSz.cell 7; have e9 := hSz.lt; simp at e0 e1 e2 e3 e4 e5 e6 e7); go_simp; (try with_reducible rfl))
        try simp only [Act.put, List.setIfInBounds_toArray, List.set_cons_zero, List.set_cons_succ]
        refine wpAnyH_ready (rs := [9]) (by kernel_rfl) (by simp) ?_
        refine AllReadyH.cons rfl (fun K' hK' => ?_) AllReadyH.nil
        refine wp_store_row 38 _ _ rfl V0 #[.int .i64 z, .int .i64 r, .int .i64 m, .int .i64 k, .int .i64 i, .slice a1 sh.length c1, .slice a2 ot.length c2, .slice a3 p.length c3] rfl rfl 38 _ RV0 rfl rfl (by kernel_rfl) ?_
        refine hK'.out _ _ (row_keep nG0 hs) (fun hs => ?_)
        clear hK' K'
        try simp only [Act.put, List.setIfInBounds_toArray, List.set_cons_zero, List.set_cons_succ]
        replace D := below_setRow D vw #[.int .i64 z, .int .i64 r, .int .i64 m, .int .i64 k, .int .i64 i, .slice a1 sh.length c1, .slice a2 ot.length c2, .slice a3 p.length c3]
        replace RV0 := row_new (cs := #[.int .i64 z, .int .i64 r, .int .i64 m, .int .i64 k, .int .i64 i, .slice a1 sh.length c1, .slice a2 ot.length c2, .slice a3 p.length c3]) RV0
        replace HA := HA.row (cs := #[.int .i64 z, .int .i64 r, .int .i64 m, .int .i64 k, .int .i64 i, .slice a1 sh.length c1, .slice a2 ot.length c2, .slice a3 p.length c3]) NA0.out
        obtain ⟨X, hX⟩ := al_w D
        rw [← hX] at D RV0 HA
        simp only [← hX]
        clear hX hs
        refine wpAnyH_done (by kernel_rfl) (NoPanic.normal ?_) _
        have k0 := RV0.cell 0
        have k1 := RV0.cell 1
        have k2 := RV0.cell 2
        have k3 := RV0.cell 3
        have k4 := RV0.cell 4
        have k5 := RV0.cell 5
        have k6 := RV0.cell 6
        have k7 := RV0.cell 7
        simp at k0 k1 k2 k3 k4 k5 k6 k7
        have HAk := Kept9.mk HA
        clear RV0 HA
        go_wp2
        refine bodyPost_ret (v := .tuple #[.int .i64 rt, .int .i64 ct, .agg #[.int .i64 z, .int .i64 r, .int .i64 m, .int .i64 k, .int .i64 i, .slice a1 sh.length c1, .slice a2 ot.length c2, .slice a3 p.length c3]]) (by simp [results, Tryz.results9, go_sem, k0, k1, k2, k3, k4, k5, k6, k7]) rfl ⟨rt, ct, z, r, m, k, i, a1, a2, a3, c1, c2, c3, sh, ot, p, rfl, RB.out, hct, DB.out, DL.out, HAk.out, D⟩
      · have nG := SS.lt
        go_simp
        refine hK'.out _ _ (hs.below ((Below.refl _ _).alloc (Nat.le_refl _) _) hs.lt) (fun hs => ?_)
        clear hK' K'
        try simp only [Act.put, List.setIfInBounds_toArray, List.set_cons_zero, List.set_cons_succ]
        have PB := al_blk (SBX9 hs)
        replace RV0 := al_keep (SBX9 hs) RV0
        replace HA := HA.below ((Below.refl _ _).alloc (Nat.le_refl _) (.cells #[.int .i64 5, .int .i64 5, .int .i64 5, .int .i64 4, .int .i64 9] 2))
        (try replace KH := KH.alloc (.cells #[.int .i64 5, .int .i64 5, .int .i64 5, .int .i64 4, .int .i64 9] 2))
        replace SS := SS.alloc (.cells #[.int .i64 5, .int .i64 5, .int .i64 5, .int .i64 4, .int .i64 9] 2)
        replace D := D.alloc D.size (.cells #[.int .i64 5, .int .i64 5, .int .i64 5, .int .i64 4, .int .i64 9] 2)
        obtain ⟨A6, h6⟩ := al_w D
        rw [← h6] at hs PB RV0 HA SS D
        (try rw [← h6] at KH)
        simp only [← h6]
        clear h6
        obtain ⟨G, hG⟩ := al_b PB
        rw [← hG] at PB nG
        simp only [← hG]
        clear hG
        have gs : G ≠ s0 := by omega
        refine wpAnyH_ready (rs := [2]) (by kernel_rfl) (by simp) ?_
        refine AllReadyH.cons rfl (fun K' hK' => ?_) AllReadyH.nil
        go_simp
        refine (RT.out _ ak ck KH KC.out.1 KC.out.2).mono ?_
        rintro _ ub ⟨rfl, hbb⟩
        refine hK'.out _ _ (hs.below hbb hs.lt) (fun hs => ?_)
        clear hK' K'
        try simp only [Act.put, List.setIfInBounds_toArray, List.set_cons_zero, List.set_cons_succ]
        replace RV0 := RV0.below hbb RV0.lt
        replace HA := HA.below hbb
        replace SS := SS.below hbb
        replace D := D.trans (hbb.mono D.size)
        (try replace PB := PB.below hbb PB.lt)
        clear hbb KH KC
        refine wpAnyH_ready (rs := [5]) (by kernel_rfl) (by simp) ?_
        refine AllReadyH.cons rfl (fun K' hK' => ?_) AllReadyH.nil
        go_simp
        refine (pick_any _ _ s0 a len cap zs _ SS (by omega) G [5, 5, 5, 4, 9] 5 rfl PB.lt gs (by omega) (by omega) 5 (blk_nums9 PB rfl)).mono ?_
        rintro _ uc ⟨ct, rfl, hp, SA, Ya⟩
        refine hK'.out _ _ (hs.fr (M := fun k => s0 = k) (.of_grown Ya.grown (fun k e => by simpa using e)) (Nat.ne_of_lt hsG)) (fun hs => ?_)
        clear hK' K'
        try simp only [Act.put, List.setIfInBounds_toArray, List.set_cons_zero, List.set_cons_succ]
        replace RV0 := RV0.fr (M := fun k => s0 = k) (.of_grown Ya.grown (fun k e => by simpa using e)) hsV0
        replace HA := HA.only NAs.out Ya
        replace D := D.trans (Ya.below sw D.size)
        clear SS PB SA Ya nG gs
        have hct : 4 ≤ ct ∧ ct ≤ 9 := by simp at hp; omega
        clear hp
        refine take_at (i := 7) (d := some 2) (v := ?mv6) rfl rfl (by kernel_rfl) (by kernel_rfl) (by kernel_rfl) (fun _ _ _ h => h) (Or.inl ⟨by rfl, ?my6⟩) hs ?mg6
        case my6 => (intro z hSz; (have e0 := hSz.cell 0; have e1 := hSz.cell 1; have e2 := hSz.cell 2; have e3 := hSz.cell 3; have e4 := hSz.cell 4; have e5 := hSz.cell 5; have e6 := hSz.cell 6; have e7 := hSz.cell 7; have e9 := hSz.lt; simp at e0 e1 e2 e3 e4 e5 e6 e7); go_simp; (try with_reducible rfl))
        try simp only [Act.put, List.setIfInBounds_toArray, List.set_cons_zero, List.set_cons_succ]
        refine take_at (i := 8) (d := some 3) (v := ?mv7) rfl rfl (by kernel_rfl) (by kernel_rfl) (by kernel_rfl) (fun _ _ _ h => h) (Or.inl ⟨by rfl, ?my7⟩) hs ?mg7
        case my7 => (intro z hSz; (have e0 := hSz.cell 0; have e1 := hSz.cell 1; have e2 := hSz.cell 2; have e3 := hSz.cell 3; have e4 := hSz.cell 4; have e5 := hSz.cell 5; have e6 := hSz.cell 6; have e7 := hSz.cell 7; have e9 := hSz.lt; simp at e0 e1 e2 e3 e4 e5 e6 e7); go_simp; (try with_reducible rfl))
        try simp only [Act.put, List.setIfInBounds_toArray, List.set_cons_zero, List.set_cons_succ]
        refine wpAnyH_ready (rs := [9]) (by kernel_rfl) (by simp) ?_
        refine AllReadyH.cons rfl (fun K' hK' => ?_) AllReadyH.nil
        refine wp_store_row 38 _ _ rfl V0 #[.int .i64 z, .int .i64 r, .int .i64 m, .int .i64 k, .int .i64 i, .slice a1 sh.length c1, .slice a2 ot.length c2, .slice a3 p.length c3] rfl rfl 38 _ RV0 rfl rfl (by kernel_rfl) ?_
        refine hK'.out _ _ (row_keep nG0 hs) (fun hs => ?_)
        clear hK' K'
        try simp only [Act.put, List.setIfInBounds_toArray, List.set_cons_zero, List.set_cons_succ]
        replace D := below_setRow D vw #[.int .i64 z, .int .i64 r, .int .i64 m, .int .i64 k, .int .i64 i, .slice a1 sh.length c1, .slice a2 ot.length c2, .slice a3 p.length c3]
        replace RV0 := row_new (cs := #[.int .i64 z, .int .i64 r, .int .i64 m, .int .i64 k, .int .i64 i, .slice a1 sh.length c1, .slice a2 ot.length c2, .slice a3 p.length c3]) RV0
        replace HA := HA.row (cs := #[.int .i64 z, .int .i64 r, .int .i64 m, .int .i64 k, .int .i64 i, .slice a1 sh.length c1, .slice a2 ot.length c2, .slice a3 p.length c3]) NA0.out
        obtain ⟨X, hX⟩ := al_w D
        rw [← hX] at D RV0 HA
        simp only [← hX]
        clear hX hs
        refine wpAnyH_done (by kernel_rfl) (NoPanic.normal ?_) _
        have k0 := RV0.cell 0
        have k1 := RV0.cell 1
        have k2 := RV0.cell 2
        have k3 := RV0.cell 3
        have k4 := RV0.cell 4
        have k5 := RV0.cell 5
        have k6 := RV0.cell 6
        have k7 := RV0.cell 7
        simp at k0 k1 k2 k3 k4 k5 k6 k7
        have HAk := Kept9.mk HA
        clear RV0 HA
        go_wp2
        refine bodyPost_ret (v := .tuple #[.int .i64 rt, .int .i64 ct, .agg #[.int .i64 z, .int .i64 r, .int .i64 m, .int .i64 k, .int .i64 i, .slice a1 sh.length c1, .slice a2 ot.length c2, .slice a3 p.length c3]]) (by simp [results, Tryz.results9, go_sem, k0, k1, k2, k3, k4, k5, k6, k7]) rfl ⟨rt, ct, z, r, m, k, i, a1, a2, a3, c1, c2, c3, sh, ot, p, rfl, RB.out, hct, DB.out, DL.out, HAk.out, D⟩
    · have nG := SS.lt
      go_simp
      refine hK'.out _ _ (hs.below ((Below.refl _ _).alloc (Nat.le_refl _) _) hs.lt) (fun hs => ?_)
      clear hK' K'
      try simp only [Act.put, List.setIfInBounds_toArray, List.set_cons_zero, List.set_cons_succ]
      have PB := al_blk (SBX9 hs)
      replace RV0 := al_keep (SBX9 hs) RV0
      replace HA := HA.below ((Below.refl _ _).alloc (Nat.le_refl _) (.cells #[.int .i64 5, .int .i64 5, .int .i64 5, .int .i64 4, .int .i64 9] 2))
      (try replace KH := KH.alloc (.cells #[.int .i64 5, .int .i64 5, .int .i64 5, .int .i64 4, .int .i64 9] 2))
      replace SS := SS.alloc (.cells #[.int .i64 5, .int .i64 5, .int .i64 5, .int .i64 4, .int .i64 9] 2)
      replace D := D.alloc D.size (.cells #[.int .i64 5, .int .i64 5, .int .i64 5, .int .i64 4, .int .i64 9] 2)
      obtain ⟨A6, h6⟩ := al_w D
      rw [← h6] at hs PB RV0 HA SS D
      (try rw [← h6] at KH)
      simp only [← h6]
      clear h6
      obtain ⟨G, hG⟩ := al_b PB
      rw [← hG] at PB nG
      simp only [← hG]
      clear hG
      have gs : G ≠ s0 := by omega
      refine wpAnyH_ready (rs := [1]) (by kernel_rfl) (by simp) ?_
      refine AllReadyH.cons rfl (fun K' hK' => ?_) AllReadyH.nil
      go_simp
      refine (KK.out _).mono ?_
      rintro _ ua ⟨ak, ck, rfl, KO, hba⟩
      refine hK'.out _ _ (hs.below hba hs.lt) (fun hs => ?_)
      clear hK' K'
      try simp only [Act.put, List.setIfInBounds_toArray, List.set_cons_zero, List.set_cons_succ]
      replace RV0 := RV0.below hba RV0.lt
      replace HA := HA.below hba
      replace SS := SS.below hba
      replace D := D.trans (hba.mono D.size)
      (try replace PB := PB.below hba PB.lt)
      have KH := has_of_own KO KW.out
      have KC := Kept9.mk (own_caps9 KO)
      clear KO hba
      refine wpAnyH_ready (rs := [2]) (by kernel_rfl) (by simp) ?_
      refine AllReadyH.cons rfl (fun K' hK' => ?_) AllReadyH.nil
      go_simp
      refine (RT.out _ ak ck KH KC.out.1 KC.out.2).mono ?_
      rintro _ ub ⟨rfl, hbb⟩
      refine hK'.out _ _ (hs.below hbb hs.lt) (fun hs => ?_)
      clear hK' K'
      try simp only [Act.put, List.setIfInBounds_toArray, List.set_cons_zero, List.set_cons_succ]
      replace RV0 := RV0.below hbb RV0.lt
      replace HA := HA.below hbb
      replace SS := SS.below hbb
      replace D := D.trans (hbb.mono D.size)
      (try replace PB := PB.below hbb PB.lt)
      clear hbb KH KC
      refine wpAnyH_ready (rs := [5]) (by kernel_rfl) (by simp) ?_
      refine AllReadyH.cons rfl (fun K' hK' => ?_) AllReadyH.nil
      go_simp
      refine (pick_any _ _ s0 a len cap zs _ SS (by omega) G [5, 5, 5, 4, 9] 5 rfl PB.lt gs (by omega) (by omega) 5 (blk_nums9 PB rfl)).mono ?_
      rintro _ uc ⟨ct, rfl, hp, SA, Ya⟩
      refine hK'.out _ _ (hs.fr (M := fun k => s0 = k) (.of_grown Ya.grown (fun k e => by simpa using e)) (Nat.ne_of_lt hsG)) (fun hs => ?_)
      clear hK' K'
      try simp only [Act.put, List.setIfInBounds_toArray, List.set_cons_zero, List.set_cons_succ]
      replace RV0 := RV0.fr (M := fun k => s0 = k) (.of_grown Ya.grown (fun k e => by simpa using e)) hsV0
      replace HA := HA.only NAs.out Ya
      replace D := D.trans (Ya.below sw D.size)
      clear SS PB SA Ya nG gs
      have hct : 4 ≤ ct ∧ ct ≤ 9 := by simp at hp; omega
      clear hp
      refine take_at (i := 7) (d := some 2) (v := ?mv8) rfl rfl (by kernel_rfl) (by kernel_rfl) (by kernel_rfl) (fun _ _ _ h => h) (Or.inl ⟨by rfl, ?my8⟩) hs ?mg8
      case my8 => (intro z hSz; (have e0 := hSz.cell 0; have e1 := hSz.cell 1; have e2 := hSz.cell 2; have e3 := hSz.cell 3; have e4 := hSz.cell 4; have e5 := hSz.cell 5; have e6 := hSz.cell 6; have e7 := hSz.cell 7; have e9 := hSz.lt; simp at e0 e1 e2 e3 e4 e5 e6 e7); go_simp; (try with_reducible rfl))
      try simp only [Act.put, List.setIfInBounds_toArray, List.set_cons_zero, List.set_cons_succ]
      refine take_at (i := 8) (d := some 3) (v := ?mv9) rfl rfl (by kernel_rfl) (by kernel_rfl) (by kernel_rfl) (fun _ _ _ h => h) (Or.inl ⟨by rfl, ?my9⟩) hs ?mg9
      case my9 => (intro z hSz; (have e0 := hSz.cell 0; have e1 := hSz.cell 1; have e2 := hSz.cell 2; have e3 := hSz.cell 3; have e4 := hSz.cell 4; have e5 := hSz.cell 5; have e6 := hSz.cell 6; have e7 := hSz.cell 7; have e9 := hSz.lt; simp at e0 e1 e2 e3 e4 e5 e6 e7); go_simp; (try with_reducible rfl))
      try simp only [Act.put, List.setIfInBounds_toArray, List.set_cons_zero, List.set_cons_succ]
      refine wpAnyH_ready (rs := [9]) (by kernel_rfl) (by simp) ?_
      refine AllReadyH.cons rfl (fun K' hK' => ?_) AllReadyH.nil
      refine wp_store_row 38 _ _ rfl V0 #[.int .i64 z, .int .i64 r, .int .i64 m, .int .i64 k, .int .i64 i, .slice a1 sh.length c1, .slice a2 ot.length c2, .slice a3 p.length c3] rfl rfl 38 _ RV0 rfl rfl (by kernel_rfl) ?_
      refine hK'.out _ _ (row_keep nG0 hs) (fun hs => ?_)
      clear hK' K'
      try simp only [Act.put, List.setIfInBounds_toArray, List.set_cons_zero, List.set_cons_succ]
      replace D := below_setRow D vw #[.int .i64 z, .int .i64 r, .int .i64 m, .int .i64 k, .int .i64 i, .slice a1 sh.length c1, .slice a2 ot.length c2, .slice a3 p.length c3]
      replace RV0 := row_new (cs := #[.int .i64 z, .int .i64 r, .int .i64 m, .int .i64 k, .int .i64 i, .slice a1 sh.length c1, .slice a2 ot.length c2, .slice a3 p.length c3]) RV0
      replace HA := HA.row (cs := #[.int .i64 z, .int .i64 r, .int .i64 m, .int .i64 k, .int .i64 i, .slice a1 sh.length c1, .slice a2 ot.length c2, .slice a3 p.length c3]) NA0.out
      obtain ⟨X, hX⟩ := al_w D
      rw [← hX] at D RV0 HA
      simp only [← hX]
      clear hX hs
      refine wpAnyH_done (by kernel_rfl) (NoPanic.normal ?_) _
      have k0 := RV0.cell 0
      have k1 := RV0.cell 1
      have k2 := RV0.cell 2
      have k3 := RV0.cell 3
      have k4 := RV0.cell 4
      have k5 := RV0.cell 5
      have k6 := RV0.cell 6
      have k7 := RV0.cell 7
      simp at k0 k1 k2 k3 k4 k5 k6 k7
      have HAk := Kept9.mk HA
      clear RV0 HA
      go_wp2
      refine bodyPost_ret (v := .tuple #[.int .i64 rt, .int .i64 ct, .agg #[.int .i64 z, .int .i64 r, .int .i64 m, .int .i64 k, .int .i64 i, .slice a1 sh.length c1, .slice a2 ot.length c2, .slice a3 p.length c3]]) (by simp [results, Tryz.results9, go_sem, k0, k1, k2, k3, k4, k5, k6, k7]) rfl ⟨rt, ct, z, r, m, k, i, a1, a2, a3, c1, c2, c3, sh, ot, p, rfl, RB.out, hct, DB.out, DL.out, HAk.out, D⟩
  | true =>
    go_wp2_with fail
    refine (l9BentS_any _ _ _ a len cap zs _ S6 (by omega)).mono ?_
    rintro e u7 ⟨z, r, m, k, i, a1, a2, a3, c1, c2, c3, sh, ot, p, t', rfl, DB', DL', HB, NB, ht', S7, Y7⟩
    clear HA NA0 NAs DB DL
    have z5 := SG.lt
    replace SG := SG.fr (M := fun k => s0 = k) (.of_grown Y7.grown (fun k e => by simpa using e)) (by omega)
    replace RV0 := RV0.fr (M := fun k => s0 = k) (.of_grown Y7.grown (fun k e => by simpa using e)) (by omega)
    replace D := D.trans (Y7.below sw D.size)
    have NBs : Kept9 (∀ y, (a1 = some y ∨ a2 = some y ∨ a3 = some y) → s0 ≠ y.block) := ⟨fun y e => by have := NB y e; omega⟩
    have NB0 : Kept9 (∀ y, (a1 = some y ∨ a2 = some y ∨ a3 = some y) → V0 ≠ y.block) := ⟨fun y e => by have := NB y e; omega⟩
    have NBG : Kept9 (∀ y, (a1 = some y ∨ a2 = some y ∨ a3 = some y) → VG ≠ y.block) := ⟨fun y e => by have := NB y e; omega⟩
    have DB := Kept9.mk DB'
    have DL := Kept9.mk DL'
    clear DB' DL' NB S6 Y7
    have g0 := SG.cell 0
    have g1 := SG.cell 1
    have g2 := SG.cell 2
    have g3 := SG.cell 3
    have g4 := SG.cell 4
    have g5 := SG.cell 5
    have g6 := SG.cell 6
    have g7 := SG.cell 7
    simp at g0 g1 g2 g3 g4 g5 g6 g7
    have f0 := SG.frozen 0
    have f1 := SG.frozen 1
    have f2 := SG.frozen 2
    have f3 := SG.frozen 3
    have f4 := SG.frozen 4
    have f5 := SG.frozen 5
    have f6 := SG.frozen 6
    have f7 := SG.frozen 7
    go_wp2_with fail
    replace HA := HB.set8 NBG.out (.int .i64 z) (.int .i64 r) (.int .i64 m) (.int .i64 k) (.int .i64 i) (.slice a1 sh.length c1) (.slice a2 ot.length c2) (.slice a3 p.length c3)
    replace SG := blk_set8 SG (.int .i64 z) (.int .i64 r) (.int .i64 m) (.int .i64 k) (.int .i64 i) (.slice a1 sh.length c1) (.slice a2 ot.length c2) (.slice a3 p.length c3)
    replace RV0 := blk_other8 RV0 (Ne.symm nG0) (.int .i64 z) (.int .i64 r) (.int .i64 m) (.int .i64 k) (.int .i64 i) (.slice a1 sh.length c1) (.slice a2 ot.length c2) (.slice a3 p.length c3)
    replace D := below8 D vG (.int .i64 z) (.int .i64 r) (.int .i64 m) (.int .i64 k) (.int .i64 i) (.slice a1 sh.length c1) (.slice a2 ot.length c2) (.slice a3 p.length c3)
    have S6 := S7.below' (N := s0 + 1) (below8 (Below.refl (s0 + 1) u7) V0G (.int .i64 z) (.int .i64 r) (.int .i64 m) (.int .i64 k) (.int .i64 i) (.slice a1 sh.length c1) (.slice a2 ot.length c2) (.slice a3 p.length c3)) (Nat.lt_succ_self _)
    obtain ⟨u6, h6⟩ := al_w D
    rw [← h6] at SG RV0 HA D S6
    simp only [← h6]
    clear h6 S7 HB NBG g0 g1 g2 g3 g4 g5 g6 g7 f0 f1 f2 f3 f4 f5 f6 f7
    have NAs := NBs
    have NA0 := NB0
    clear NBs NB0
    refine wp_region_noPanic ?_
    refine wp_region_held_drew (S := fun u => Blk u VG #[.int .i64 z, .int .i64 r, .int .i64 m, .int .i64 k, .int .i64 i, .slice a1 sh.length c1, .slice a2 ot.length c2, .slice a3 p.length c3] 38) (by kernel_rfl) (SG.below (Below.refl _ _).drew SG.lt) (fun hs => ?_)
    have dr : Below u6.heap.size u6 u6.drew := (Below.refl _ _).drew
    obtain ⟨XD, hXD⟩ := al_w dr
    rw [← hXD] at hs dr
    simp only [← hXD]
    clear hXD
    replace RV0 := RV0.below dr RV0.lt
    replace HA := HA.below dr
    have SS := S6.below dr
    replace D := D.trans (dr.mono D.size)
    clear dr SG S6
    refine take_at (i := 0) (d := some 20) (v := ?mv10) rfl rfl (by kernel_rfl) (by kernel_rfl) (by kernel_rfl) (fun _ _ _ h => h) (Or.inl ⟨by rfl, ?my10⟩) hs ?mg10
    case my10 => (intro z hSz; (have e0 := hSz.cell 0; have e1 := hSz.cell 1; have e2 := hSz.cell 2; have e3 := hSz.cell 3; have e4 := hSz.cell 4; have e5 := hSz.cell 5; have e6 := hSz.cell 6; have e7 := hSz.cell 7; have e9 := hSz.lt; simp at e0 e1 e2 e3 e4 e5 e6 e7); go_simp; (try with_reducible rfl))
    try simp only [Act.put, List.setIfInBounds_toArray, List.set_cons_zero, List.set_cons_succ]
    refine take_at (i := 3) (d := some 23) (v := ?mv11) rfl rfl (by kernel_rfl) (by kernel_rfl) (by kernel_rfl) (fun _ _ _ h => h) (Or.inl ⟨by rfl, ?my11⟩) hs ?mg11
    case my11 => (intro z hSz; (have e0 := hSz.cell 0; have e1 := hSz.cell 1; have e2 := hSz.cell 2; have e3 := hSz.cell 3; have e4 := hSz.cell 4; have e5 := hSz.cell 5; have e6 := hSz.cell 6; have e7 := hSz.cell 7; have e9 := hSz.lt; simp at e0 e1 e2 e3 e4 e5 e6 e7); go_simp; (try with_reducible rfl))
    try simp only [Act.put, List.setIfInBounds_toArray, List.set_cons_zero, List.set_cons_succ]
    refine take_at (i := 6) (d := some 26) (v := ?mv12) rfl rfl (by kernel_rfl) (by kernel_rfl) (by kernel_rfl) (fun _ _ _ h => h) (Or.inl ⟨by rfl, ?my12⟩) hs ?mg12
    case my12 => (intro z hSz; (have e0 := hSz.cell 0; have e1 := hSz.cell 1; have e2 := hSz.cell 2; have e3 := hSz.cell 3; have e4 := hSz.cell 4; have e5 := hSz.cell 5; have e6 := hSz.cell 6; have e7 := hSz.cell 7; have e9 := hSz.lt; simp at e0 e1 e2 e3 e4 e5 e6 e7); go_simp; (try with_reducible rfl))
    try simp only [Act.put, List.setIfInBounds_toArray, List.set_cons_zero, List.set_cons_succ]
    refine wpAnyH_ready (rs := [1, 4]) (by kernel_rfl) (by simp) ?_
    refine AllReadyH.cons rfl (fun K' hK' => ?_) (AllReadyH.cons rfl (fun K' hK' => ?_) AllReadyH.nil)
    · go_simp
      refine (KK.out _).mono ?_
      rintro _ ua ⟨ak, ck, rfl, KO, hba⟩
      refine hK'.out _ _ (hs.below hba hs.lt) (fun hs => ?_)
      clear hK' K'
      try simp only [Act.put, List.setIfInBounds_toArray, List.set_cons_zero, List.set_cons_succ]
      replace RV0 := RV0.below hba RV0.lt
      replace HA := HA.below hba
      replace SS := SS.below hba
      replace D := D.trans (hba.mono D.size)
      (try replace PB := PB.below hba PB.lt)
      have KH := has_of_own KO KW.out
      have KC := Kept9.mk (own_caps9 KO)
      clear KO hba
      refine wpAnyH_ready (rs := [2, 4]) (by kernel_rfl) (by simp) ?_
      refine AllReadyH.cons rfl (fun K' hK' => ?_) (AllReadyH.cons rfl (fun K' hK' => ?_) AllReadyH.nil)
      · go_simp
        refine (RT.out _ ak ck KH KC.out.1 KC.out.2).mono ?_
        rintro _ ub ⟨rfl, hbb⟩
        refine hK'.out _ _ (hs.below hbb hs.lt) (fun hs => ?_)
        clear hK' K'
        try simp only [Act.put, List.setIfInBounds_toArray, List.set_cons_zero, List.set_cons_succ]
        replace RV0 := RV0.below hbb RV0.lt
        replace HA := HA.below hbb
        replace SS := SS.below hbb
        replace D := D.trans (hbb.mono D.size)
        (try replace PB := PB.below hbb PB.lt)
        clear hbb KH KC
        refine wpAnyH_ready (rs := [4]) (by kernel_rfl) (by simp) ?_
        refine AllReadyH.cons rfl (fun K' hK' => ?_) AllReadyH.nil
        have nG := SS.lt
        go_simp
        refine hK'.out _ _ (hs.below ((Below.refl _ _).alloc (Nat.le_refl _) _) hs.lt) (fun hs => ?_)
        clear hK' K'
        try simp only [Act.put, List.setIfInBounds_toArray, List.set_cons_zero, List.set_cons_succ]
        have PB := al_blk (SBX9 hs)
        replace RV0 := al_keep (SBX9 hs) RV0
        replace HA := HA.below ((Below.refl _ _).alloc (Nat.le_refl _) (.cells #[.int .i64 5, .int .i64 5, .int .i64 5, .int .i64 4, .int .i64 9] 2))
        (try replace KH := KH.alloc (.cells #[.int .i64 5, .int .i64 5, .int .i64 5, .int .i64 4, .int .i64 9] 2))
        replace SS := SS.alloc (.cells #[.int .i64 5, .int .i64 5, .int .i64 5, .int .i64 4, .int .i64 9] 2)
        replace D := D.alloc D.size (.cells #[.int .i64 5, .int .i64 5, .int .i64 5, .int .i64 4, .int .i64 9] 2)
        obtain ⟨A6, h6⟩ := al_w D
        rw [← h6] at hs PB RV0 HA SS D
        (try rw [← h6] at KH)
        simp only [← h6]
        clear h6
        obtain ⟨G, hG⟩ := al_b PB
        rw [← hG] at PB nG
        simp only [← hG]
        clear hG
        have gs : G ≠ s0 := by omega
        refine wpAnyH_ready (rs := [5]) (by kernel_rfl) (by simp) ?_
        refine AllReadyH.cons rfl (fun K' hK' => ?_) AllReadyH.nil
        go_simp
        refine (pick_any _ _ s0 a len cap zs _ SS (by omega) G [5, 5, 5, 4, 9] 5 rfl PB.lt gs (by omega) (by omega) 5 (blk_nums9 PB rfl)).mono ?_
        rintro _ uc ⟨ct, rfl, hp, SA, Ya⟩
        refine hK'.out _ _ (hs.fr (M := fun k => s0 = k) (.of_grown Ya.grown (fun k e => by simpa using e)) (Nat.ne_of_lt hsG)) (fun hs => ?_)
        clear hK' K'
        try simp only [Act.put, List.setIfInBounds_toArray, List.set_cons_zero, List.set_cons_succ]
        replace RV0 := RV0.fr (M := fun k => s0 = k) (.of_grown Ya.grown (fun k e => by simpa using e)) hsV0
        replace HA := HA.only NAs.out Ya
        replace D := D.trans (Ya.below sw D.size)
        clear SS PB SA Ya nG gs
        have hct : 4 ≤ ct ∧ ct ≤ 9 := by simp at hp; omega
        clear hp
        refine take_at (i := 7) (d := some 2) (v := ?mv13) rfl rfl (by kernel_rfl) (by kernel_rfl) (by kernel_rfl) (fun _ _ _ h => h) (Or.inl ⟨by rfl, ?my13⟩) hs ?mg13
        case my13 => (intro z hSz; (have e0 := hSz.cell 0; have e1 := hSz.cell 1; have e2 := hSz.cell 2; have e3 := hSz.cell 3; have e4 := hSz.cell 4; have e5 := hSz.cell 5; have e6 := hSz.cell 6; have e7 := hSz.cell 7; have e9 := hSz.lt; simp at e0 e1 e2 e3 e4 e5 e6 e7); go_simp; (try with_reducible rfl))
        try simp only [Act.put, List.setIfInBounds_toArray, List.set_cons_zero, List.set_cons_succ]
        refine take_at (i := 8) (d := some 3) (v := ?mv14) rfl rfl (by kernel_rfl) (by kernel_rfl) (by kernel_rfl) (fun _ _ _ h => h) (Or.inl ⟨by rfl, ?my14⟩) hs ?mg14
        case my14 => (intro z hSz; (have e0 := hSz.cell 0; have e1 := hSz.cell 1; have e2 := hSz.cell 2; have e3 := hSz.cell 3; have e4 := hSz.cell 4; have e5 := hSz.cell 5; have e6 := hSz.cell 6; have e7 := hSz.cell 7; have e9 := hSz.lt; simp at e0 e1 e2 e3 e4 e5 e6 e7); go_simp; (try with_reducible rfl))
        try simp only [Act.put, List.setIfInBounds_toArray, List.set_cons_zero, List.set_cons_succ]
        refine wpAnyH_ready (rs := [9]) (by kernel_rfl) (by simp) ?_
        refine AllReadyH.cons rfl (fun K' hK' => ?_) AllReadyH.nil
        refine wp_store_row 38 _ _ rfl V0 #[.int .i64 z, .int .i64 r, .int .i64 m, .int .i64 k, .int .i64 i, .slice a1 sh.length c1, .slice a2 ot.length c2, .slice a3 p.length c3] rfl rfl 38 _ RV0 rfl rfl (by kernel_rfl) ?_
        refine hK'.out _ _ (row_keep nG0 hs) (fun hs => ?_)
        clear hK' K'
        try simp only [Act.put, List.setIfInBounds_toArray, List.set_cons_zero, List.set_cons_succ]
        replace D := below_setRow D vw #[.int .i64 z, .int .i64 r, .int .i64 m, .int .i64 k, .int .i64 i, .slice a1 sh.length c1, .slice a2 ot.length c2, .slice a3 p.length c3]
        replace RV0 := row_new (cs := #[.int .i64 z, .int .i64 r, .int .i64 m, .int .i64 k, .int .i64 i, .slice a1 sh.length c1, .slice a2 ot.length c2, .slice a3 p.length c3]) RV0
        replace HA := HA.row (cs := #[.int .i64 z, .int .i64 r, .int .i64 m, .int .i64 k, .int .i64 i, .slice a1 sh.length c1, .slice a2 ot.length c2, .slice a3 p.length c3]) NA0.out
        obtain ⟨X, hX⟩ := al_w D
        rw [← hX] at D RV0 HA
        simp only [← hX]
        clear hX hs
        refine wpAnyH_done (by kernel_rfl) (NoPanic.normal ?_) _
        have k0 := RV0.cell 0
        have k1 := RV0.cell 1
        have k2 := RV0.cell 2
        have k3 := RV0.cell 3
        have k4 := RV0.cell 4
        have k5 := RV0.cell 5
        have k6 := RV0.cell 6
        have k7 := RV0.cell 7
        simp at k0 k1 k2 k3 k4 k5 k6 k7
        have HAk := Kept9.mk HA
        clear RV0 HA
        go_wp2
        refine bodyPost_ret (v := .tuple #[.int .i64 rt, .int .i64 ct, .agg #[.int .i64 z, .int .i64 r, .int .i64 m, .int .i64 k, .int .i64 i, .slice a1 sh.length c1, .slice a2 ot.length c2, .slice a3 p.length c3]]) (by simp [results, Tryz.results9, go_sem, k0, k1, k2, k3, k4, k5, k6, k7]) rfl ⟨rt, ct, z, r, m, k, i, a1, a2, a3, c1, c2, c3, sh, ot, p, rfl, RB.out, hct, DB.out, DL.out, HAk.out, D⟩
      · have nG := SS.lt
        go_simp
        refine hK'.out _ _ (hs.below ((Below.refl _ _).alloc (Nat.le_refl _) _) hs.lt) (fun hs => ?_)
        clear hK' K'
        try simp only [Act.put, List.setIfInBounds_toArray, List.set_cons_zero, List.set_cons_succ]
        have PB := al_blk (SBX9 hs)
        replace RV0 := al_keep (SBX9 hs) RV0
        replace HA := HA.below ((Below.refl _ _).alloc (Nat.le_refl _) (.cells #[.int .i64 5, .int .i64 5, .int .i64 5, .int .i64 4, .int .i64 9] 2))
        (try replace KH := KH.alloc (.cells #[.int .i64 5, .int .i64 5, .int .i64 5, .int .i64 4, .int .i64 9] 2))
        replace SS := SS.alloc (.cells #[.int .i64 5, .int .i64 5, .int .i64 5, .int .i64 4, .int .i64 9] 2)
        replace D := D.alloc D.size (.cells #[.int .i64 5, .int .i64 5, .int .i64 5, .int .i64 4, .int .i64 9] 2)
        obtain ⟨A6, h6⟩ := al_w D
        rw [← h6] at hs PB RV0 HA SS D
        (try rw [← h6] at KH)
        simp only [← h6]
        clear h6
        obtain ⟨G, hG⟩ := al_b PB
        rw [← hG] at PB nG
        simp only [← hG]
        clear hG
        have gs : G ≠ s0 := by omega
        refine wpAnyH_ready (rs := [2]) (by kernel_rfl) (by simp) ?_
        refine AllReadyH.cons rfl (fun K' hK' => ?_) AllReadyH.nil
        go_simp
        refine (RT.out _ ak ck KH KC.out.1 KC.out.2).mono ?_
        rintro _ ub ⟨rfl, hbb⟩
        refine hK'.out _ _ (hs.below hbb hs.lt) (fun hs => ?_)
        clear hK' K'
        try simp only [Act.put, List.setIfInBounds_toArray, List.set_cons_zero, List.set_cons_succ]
        replace RV0 := RV0.below hbb RV0.lt
        replace HA := HA.below hbb
        replace SS := SS.below hbb
        replace D := D.trans (hbb.mono D.size)
        (try replace PB := PB.below hbb PB.lt)
        clear hbb KH KC
        refine wpAnyH_ready (rs := [5]) (by kernel_rfl) (by simp) ?_
        refine AllReadyH.cons rfl (fun K' hK' => ?_) AllReadyH.nil
        go_simp
        refine (pick_any _ _ s0 a len cap zs _ SS (by omega) G [5, 5, 5, 4, 9] 5 rfl PB.lt gs (by omega) (by omega) 5 (blk_nums9 PB rfl)).mono ?_
        rintro _ uc ⟨ct, rfl, hp, SA, Ya⟩
        refine hK'.out _ _ (hs.fr (M := fun k => s0 = k) (.of_grown Ya.grown (fun k e => by simpa using e)) (Nat.ne_of_lt hsG)) (fun hs => ?_)
        clear hK' K'
        try simp only [Act.put, List.setIfInBounds_toArray, List.set_cons_zero, List.set_cons_succ]
        replace RV0 := RV0.fr (M := fun k => s0 = k) (.of_grown Ya.grown (fun k e => by simpa using e)) hsV0
        replace HA := HA.only NAs.out Ya
        replace D := D.trans (Ya.below sw D.size)
        clear SS PB SA Ya nG gs
        have hct : 4 ≤ ct ∧ ct ≤ 9 := by simp at hp; omega
        clear hp
        refine take_at (i := 7) (d := some 2) (v := ?mv15) rfl rfl (by kernel_rfl) (by kernel_rfl) (by kernel_rfl) (fun _ _ _ h => h) (Or.inl ⟨by rfl, ?my15⟩) hs ?mg15
        case my15 => (intro z hSz; (have e0 := hSz.cell 0; have e1 := hSz.cell 1; have e2 := hSz.cell 2; have e3 := hSz.cell 3; have e4 := hSz.cell 4; have e5 := hSz.cell 5; have e6 := hSz.cell 6; have e7 := hSz.cell 7; have e9 := hSz.lt; simp at e0 e1 e2 e3 e4 e5 e6 e7); go_simp; (try with_reducible rfl))
        try simp only [Act.put, List.setIfInBounds_toArray, List.set_cons_zero, List.set_cons_succ]
        refine take_at (i := 8) (d := some 3) (v := ?mv16) rfl rfl (by kernel_rfl) (by kernel_rfl) (by kernel_rfl) (fun _ _ _ h => h) (Or.inl ⟨by rfl, ?my16⟩) hs ?mg16
        case my16 => (intro z hSz; (have e0 := hSz.cell 0; have e1 := hSz.cell 1; have e2 := hSz.cell 2; have e3 := hSz.cell 3; have e4 := hSz.cell 4; have e5 := hSz.cell 5; have e6 := hSz.cell 6; have e7 := hSz.cell 7; have e9 := hSz.lt; simp at e0 e1 e2 e3 e4 e5 e6 e7); go_simp; (try with_reducible rfl))
        try simp only [Act.put, List.setIfInBounds_toArray, List.set_cons_zero, List.set_cons_succ]
        refine wpAnyH_ready (rs := [9]) (by kernel_rfl) (by simp) ?_
        refine AllReadyH.cons rfl (fun K' hK' => ?_) AllReadyH.nil
        refine wp_store_row 38 _ _ rfl V0 #[.int .i64 z, .int .i64 r, .int .i64 m, .int .i64 k, .int .i64 i, .slice a1 sh.length c1, .slice a2 ot.length c2, .slice a3 p.length c3] rfl rfl 38 _ RV0 rfl rfl (by kernel_rfl) ?_
        refine hK'.out _ _ (row_keep nG0 hs) (fun hs => ?_)
        clear hK' K'
        try simp only [Act.put, List.setIfInBounds_toArray, List.set_cons_zero, List.set_cons_succ]
        replace D := below_setRow D vw #[.int .i64 z, .int .i64 r, .int .i64 m, .int .i64 k, .int .i64 i, .slice a1 sh.length c1, .slice a2 ot.length c2, .slice a3 p.length c3]
        replace RV0 := row_new (cs := #[.int .i64 z, .int .i64 r, .int .i64 m, .int .i64 k, .int .i64 i, .slice a1 sh.length c1, .slice a2 ot.length c2, .slice a3 p.length c3]) RV0
        replace HA := HA.row (cs := #[.int .i64 z, .int .i64 r, .int .i64 m, .int .i64 k, .int .i64 i, .slice a1 sh.length c1, .slice a2 ot.length c2, .slice a3 p.length c3]) NA0.out
        obtain ⟨X, hX⟩ := al_w D
        rw [← hX] at D RV0 HA
        simp only [← hX]
        clear hX hs
        refine wpAnyH_done (by kernel_rfl) (NoPanic.normal ?_) _
        have k0 := RV0.cell 0
        have k1 := RV0.cell 1
        have k2 := RV0.cell 2
        have k3 := RV0.cell 3
        have k4 := RV0.cell 4
        have k5 := RV0.cell 5
        have k6 := RV0.cell 6
        have k7 := RV0.cell 7
        simp at k0 k1 k2 k3 k4 k5 k6 k7
        have HAk := Kept9.mk HA
        clear RV0 HA
        go_wp2
        refine bodyPost_ret (v := .tuple #[.int .i64 rt, .int .i64 ct, .agg #[.int .i64 z, .int .i64 r, .int .i64 m, .int .i64 k, .int .i64 i, .slice a1 sh.length c1, .slice a2 ot.length c2, .slice a3 p.length c3]]) (by simp [results, Tryz.results9, go_sem, k0, k1, k2, k3, k4, k5, k6, k7]) rfl ⟨rt, ct, z, r, m, k, i, a1, a2, a3, c1, c2, c3, sh, ot, p, rfl, RB.out, hct, DB.out, DL.out, HAk.out, D⟩
    · have nG := SS.lt
      go_simp
      refine hK'.out _ _ (hs.below ((Below.refl _ _).alloc (Nat.le_refl _) _) hs.lt) (fun hs => ?_)
      clear hK' K'
      try simp only [Act.put, List.setIfInBounds_toArray, List.set_cons_zero, List.set_cons_succ]
      have PB := al_blk (SBX9 hs)
      replace RV0 := al_keep (SBX9 hs) RV0
      replace HA := HA.below ((Below.refl _ _).alloc (Nat.le_refl _) (.cells #[.int .i64 5, .int .i64 5, .int .i64 5, .int .i64 4, .int .i64 9] 2))
      (try replace KH := KH.alloc (.cells #[.int .i64 5, .int .i64 5, .int .i64 5, .int .i64 4, .int .i64 9] 2))
      replace SS := SS.alloc (.cells #[.int .i64 5, .int .i64 5, .int .i64 5, .int .i64 4, .int .i64 9] 2)
      replace D := D.alloc D.size (.cells #[.int .i64 5, .int .i64 5, .int .i64 5, .int .i64 4, .int .i64 9] 2)
      obtain ⟨A6, h6⟩ := al_w D
      rw [← h6] at hs PB RV0 HA SS D
      (try rw [← h6] at KH)
      simp only [← h6]
      clear h6
      obtain ⟨G, hG⟩ := al_b PB
      rw [← hG] at PB nG
      simp only [← hG]
      clear hG
      have gs : G ≠ s0 := by omega
      refine wpAnyH_ready (rs := [1]) (by kernel_rfl) (by simp) ?_
      refine AllReadyH.cons rfl (fun K' hK' => ?_) AllReadyH.nil
      go_simp
      refine (KK.out _).mono ?_
      rintro _ ua ⟨ak, ck, rfl, KO, hba⟩
      refine hK'.out _ _ (hs.below hba hs.lt) (fun hs => ?_)
      clear hK' K'
      try simp only [Act.put, List.setIfInBounds_toArray, List.set_cons_zero, List.set_cons_succ]
      replace RV0 := RV0.below hba RV0.lt
      replace HA := HA.below hba
      replace SS := SS.below hba
      replace D := D.trans (hba.mono D.size)
      (try replace PB := PB.below hba PB.lt)
      have KH := has_of_own KO KW.out
      have KC := Kept9.mk (own_caps9 KO)
      clear KO hba
      refine wpAnyH_ready (rs := [2]) (by kernel_rfl) (by simp) ?_
      refine AllReadyH.cons rfl (fun K' hK' => ?_) AllReadyH.nil
      go_simp
      refine (RT.out _ ak ck KH KC.out.1 KC.out.2).mono ?_
      rintro _ ub ⟨rfl, hbb⟩
      refine hK'.out _ _ (hs.below hbb hs.lt) (fun hs => ?_)
      clear hK' K'
      try simp only [Act.put, List.setIfInBounds_toArray, List.set_cons_zero, List.set_cons_succ]
      replace RV0 := RV0.below hbb RV0.lt
      replace HA := HA.below hbb
      replace SS := SS.below hbb
      replace D := D.trans (hbb.mono D.size)
      (try replace PB := PB.below hbb PB.lt)
      clear hbb KH KC
      refine wpAnyH_ready (rs := [5]) (by kernel_rfl) (by simp) ?_
      refine AllReadyH.cons rfl (fun K' hK' => ?_) AllReadyH.nil
      go_simp
      refine (pick_any _ _ s0 a len cap zs _ SS (by omega) G [5, 5, 5, 4, 9] 5 rfl PB.lt gs (by omega) (by omega) 5 (blk_nums9 PB rfl)).mono ?_
      rintro _ uc ⟨ct, rfl, hp, SA, Ya⟩
      refine hK'.out _ _ (hs.fr (M := fun k => s0 = k) (.of_grown Ya.grown (fun k e => by simpa using e)) (Nat.ne_of_lt hsG)) (fun hs => ?_)
      clear hK' K'
      try simp only [Act.put, List.setIfInBounds_toArray, List.set_cons_zero, List.set_cons_succ]
      replace RV0 := RV0.fr (M := fun k => s0 = k) (.of_grown Ya.grown (fun k e => by simpa using e)) hsV0
      replace HA := HA.only NAs.out Ya
      replace D := D.trans (Ya.below sw D.size)
      clear SS PB SA Ya nG gs
      have hct : 4 ≤ ct ∧ ct ≤ 9 := by simp at hp; omega
      clear hp
      refine take_at (i := 7) (d := some 2) (v := ?mv17) rfl rfl (by kernel_rfl) (by kernel_rfl) (by kernel_rfl) (fun _ _ _ h => h) (Or.inl ⟨by rfl, ?my17⟩) hs ?mg17
      case my17 => (intro z hSz; (have e0 := hSz.cell 0; have e1 := hSz.cell 1; have e2 := hSz.cell 2; have e3 := hSz.cell 3; have e4 := hSz.cell 4; have e5 := hSz.cell 5; have e6 := hSz.cell 6; have e7 := hSz.cell 7; have e9 := hSz.lt; simp at e0 e1 e2 e3 e4 e5 e6 e7); go_simp; (try with_reducible rfl))
      try simp only [Act.put, List.setIfInBounds_toArray, List.set_cons_zero, List.set_cons_succ]
      refine take_at (i := 8) (d := some 3) (v := ?mv18) rfl rfl (by kernel_rfl) (by kernel_rfl) (by kernel_rfl) (fun _ _ _ h => h) (Or.inl ⟨by rfl, ?my18⟩) hs ?mg18
      case my18 => (intro z hSz; (have e0 := hSz.cell 0; have e1 := hSz.cell 1; have e2 := hSz.cell 2; have e3 := hSz.cell 3; have e4 := hSz.cell 4; have e5 := hSz.cell 5; have e6 := hSz.cell 6; have e7 := hSz.cell 7; have e9 := hSz.lt; simp at e0 e1 e2 e3 e4 e5 e6 e7); go_simp; (try with_reducible rfl))
      try simp only [Act.put, List.setIfInBounds_toArray, List.set_cons_zero, List.set_cons_succ]
      refine wpAnyH_ready (rs := [9]) (by kernel_rfl) (by simp) ?_
      refine AllReadyH.cons rfl (fun K' hK' => ?_) AllReadyH.nil
      refine wp_store_row 38 _ _ rfl V0 #[.int .i64 z, .int .i64 r, .int .i64 m, .int .i64 k, .int .i64 i, .slice a1 sh.length c1, .slice a2 ot.length c2, .slice a3 p.length c3] rfl rfl 38 _ RV0 rfl rfl (by kernel_rfl) ?_
      refine hK'.out _ _ (row_keep nG0 hs) (fun hs => ?_)
      clear hK' K'
      try simp only [Act.put, List.setIfInBounds_toArray, List.set_cons_zero, List.set_cons_succ]
      replace D := below_setRow D vw #[.int .i64 z, .int .i64 r, .int .i64 m, .int .i64 k, .int .i64 i, .slice a1 sh.length c1, .slice a2 ot.length c2, .slice a3 p.length c3]
      replace RV0 := row_new (cs := #[.int .i64 z, .int .i64 r, .int .i64 m, .int .i64 k, .int .i64 i, .slice a1 sh.length c1, .slice a2 ot.length c2, .slice a3 p.length c3]) RV0
      replace HA := HA.row (cs := #[.int .i64 z, .int .i64 r, .int .i64 m, .int .i64 k, .int .i64 i, .slice a1 sh.length c1, .slice a2 ot.length c2, .slice a3 p.length c3]) NA0.out
      obtain ⟨X, hX⟩ := al_w D
      rw [← hX] at D RV0 HA
      simp only [← hX]
      clear hX hs
      refine wpAnyH_done (by kernel_rfl) (NoPanic.normal ?_) _
      have k0 := RV0.cell 0
      have k1 := RV0.cell 1
      have k2 := RV0.cell 2
      have k3 := RV0.cell 3
      have k4 := RV0.cell 4
      have k5 := RV0.cell 5
      have k6 := RV0.cell 6
      have k7 := RV0.cell 7
      simp at k0 k1 k2 k3 k4 k5 k6 k7
      have HAk := Kept9.mk HA
      clear RV0 HA
      go_wp2
      refine bodyPost_ret (v := .tuple #[.int .i64 rt, .int .i64 ct, .agg #[.int .i64 z, .int .i64 r, .int .i64 m, .int .i64 k, .int .i64 i, .slice a1 sh.length c1, .slice a2 ot.length c2, .slice a3 p.length c3]]) (by simp [results, Tryz.results9, go_sem, k0, k1, k2, k3, k4, k5, k6, k7]) rfl ⟨rt, ct, z, r, m, k, i, a1, a2, a3, c1, c2, c3, sh, ot, p, rfl, RB.out, hct, DB.out, DL.out, HAk.out, D⟩

end Go.Proofs.YtffidkoejlebeaaGreatDoor
