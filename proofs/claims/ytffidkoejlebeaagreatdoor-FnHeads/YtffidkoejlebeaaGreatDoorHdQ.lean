/- Contracts: the model signs a head. -/
import Derived.Test.YtffidkoejlebeaaGreatDoorHdP
import Derived.Test.YtffidkoejlebeaaGreatDoorKySg
import Derived.Test.YtffidkoejlebeaaGreatDoorKyS
import Derived.Test.YtffidkoejlebeaaGreatDoorPath4S
import Derived.Test.YtffidkoejlebeaaGreatDoorHdD
namespace Go.Proofs.YtffidkoejlebeaaGreatDoor
open Go.ChangeShapes Go.WideShapes Go.ChangeAt Go.RowKit
set_option maxRecDepth 100000
set_option linter.unusedVariables false
set_option linter.unusedSimpArgs false

theorem own_blk9 {w w' : World} {base e n c : Nat} {a : Option Addr} {xs : List Value} (h : w.ownsRow base e 1 (.slice a n c) n xs) (hx : ∀ x, a = some x → w'.heap[x.block]? = w.heap[x.block]?) : w'.ownsRow base e 1 (.slice a n c) n xs := by
  refine ⟨h.1, ?_⟩
  rcases h.2 with h0 | ⟨g, cap, cur, e1, hb, hg, rest⟩
  · exact .inl h0
  · simp at e1
    obtain ⟨rfl, rfl⟩ := e1
    exact .inr ⟨g, _, cur, rfl, hb, (hx _ rfl).trans hg, rest⟩
theorem own_lt9 {w : World} {base e n c : Nat} {a : Option Addr} {xs : List Value} (ho : w.ownsRow base e 1 (.slice a n c) n xs) : ∀ ad, a = some ad → ad.block < w.heap.size := by
  intro ad had
  subst had
  exact (ho.lt _ rfl).2
theorem own_caps9 {w : World} {base e n c : Nat} {a : Option Addr} {xs : List Value} (h : w.ownsRow base e 1 (.slice a n c) n xs) : n ≤ c ∧ c ≤ maxLen := by
  rcases h.2 with ⟨e1, h0⟩ | ⟨g, cap, cur, e1, _, _, h1, h2, _⟩
  · simp at e1
    omega
  · simp at e1
    obtain ⟨_, rfl⟩ := e1
    exact ⟨h1, h2⟩
/-- A signed head's lists in memory of its own. -/
structure OwnH (w : World) (base : Nat) (a1 a2 a3 : Option Addr) (c1 c2 c3 : Nat) (xs ys zs : List Int) : Prop where
  one : w.ownsRow base 2 1 (.slice a1 xs.length c1) xs.length (xs.map (.int .i64))
  two : w.ownsRow base 2 1 (.slice a2 ys.length c2) ys.length (ys.map (.int .i64))
  three : w.ownsRow base 2 1 (.slice a3 zs.length c3) zs.length (zs.map (.int .i64))
  ap12 : ∀ x y, a1 = some x → a2 = some y → x.block ≠ y.block
  ap13 : ∀ x y, a1 = some x → a3 = some y → x.block ≠ y.block
  ap23 : ∀ x y, a2 = some x → a3 = some y → x.block ≠ y.block
theorem OwnH.below {w w' : World} {base : Nat} {a1 a2 a3 : Option Addr} {c1 c2 c3 : Nat} {xs ys zs : List Int} (h : OwnH w base a1 a2 a3 c1 c2 c3 xs ys zs) (hb : Below w.heap.size w w') : OwnH w' base a1 a2 a3 c1 c2 c3 xs ys zs := ⟨own_below h.one hb, own_below h.two hb, own_below h.three hb, h.ap12, h.ap13, h.ap23⟩
theorem OwnH.mono {w : World} {base base' : Nat} {a1 a2 a3 : Option Addr} {c1 c2 c3 : Nat} {xs ys zs : List Int} (h : OwnH w base a1 a2 a3 c1 c2 c3 xs ys zs) (hb : base' ≤ base) : OwnH w base' a1 a2 a3 c1 c2 c3 xs ys zs := ⟨own_mono h.one hb, own_mono h.two hb, own_mono h.three hb, h.ap12, h.ap13, h.ap23⟩
theorem OwnH.set {w : World} {base : Nat} {a1 a2 a3 : Option Addr} {c1 c2 c3 : Nat} {xs ys zs : List Int} (h : OwnH w base a1 a2 a3 c1 c2 c3 xs ys zs) (p : Addr) (u : Value) (hp : p.block < base) : OwnH (w.setCell p u) base a1 a2 a3 c1 c2 c3 xs ys zs := ⟨own_blk9 h.one (fun x e => Below.heap_setCell _ _ _ _ (by have := own_base h.one x e; omega)), own_blk9 h.two (fun x e => Below.heap_setCell _ _ _ _ (by have := own_base h.two x e; omega)), own_blk9 h.three (fun x e => Below.heap_setCell _ _ _ _ (by have := own_base h.three x e; omega)), h.ap12, h.ap13, h.ap23⟩
theorem OwnH.row {w : World} {base g : Nat} {cs : Array Value} {a1 a2 a3 : Option Addr} {c1 c2 c3 : Nat} {xs ys zs : List Int} (h : OwnH w base a1 a2 a3 c1 c2 c3 xs ys zs) (hp : g < base) : OwnH (w.setRow g cs) base a1 a2 a3 c1 c2 c3 xs ys zs := by
  have f : ∀ {a : Option Addr} {n c : Nat} {l : List Value}, w.ownsRow base 2 1 (.slice a n c) n l → (w.setRow g cs).ownsRow base 2 1 (.slice a n c) n l := fun ho => own_blk9 ho (fun x e => setRow_other w g x.block cs (by have := own_base ho x e; omega))
  exact ⟨f h.one, f h.two, f h.three, h.ap12, h.ap13, h.ap23⟩
theorem OwnH.nil (w : World) (base : Nat) : OwnH w base none none none 0 0 0 [] [] [] := ⟨World.ownsRow_nil _ _ _ _, World.ownsRow_nil _ _ _ _, World.ownsRow_nil _ _ _ _, (fun _ _ e => nomatch e), (fun _ _ e => nomatch e), (fun _ _ e => nomatch e)⟩

set_option maxHeartbeats 4000000 in
theorem l9Sign_any (s : Int) (n : Nat) (z r m k : Int) (w : World) (hb : hdB z r m k = true) (hs : 0 ≤ s ∧ s ≤ 999) (hn : 1 ≤ n ∧ n ≤ 8) (hk : k < n) :
    Calls Tryz.prog 39 #[.int .i64 s, .int .i64 n, .agg #[.int .i64 z, .int .i64 r, .int .i64 m, .int .i64 k]] w fun e w' => ∃ a1 c1 a2 c2 a3 c3, e = .returned (.agg #[.int .i64 z, .int .i64 r, .int .i64 m, .int .i64 k, .int .i64 k, .slice a1 (shW s k (hdV z r m k) (List.range 16)).length c1, .slice a2 (otW s k (hdV z r m k) (List.range 16)).length c2, .slice a3 (ptM nS 11 (keysL s n) k).length c3]) ∧ OwnH w' w.heap.size a1 a2 a3 c1 c2 c3 (shW s k (hdV z r m k) (List.range 16)) (otW s k (hdV z r m k) (List.range 16)) (ptM nS 11 (keysL s n) k) ∧ Below w.heap.size w w' := by
  obtain ⟨E, hE⟩ : ∃ E, E = (w.alloc (.cells #[.int .i64 z, .int .i64 r, .int .i64 m, .int .i64 k] 26)).alloc (.cells #[.int .i64 0, .int .i64 0, .int .i64 0, .int .i64 0, .int .i64 0, .slice none 0 0, .slice none 0 0, .slice none 0 0] 38) := ⟨_, rfl⟩
  have BE : Below w.heap.size w E := by rw [hE]; exact ((Below.refl _ _).alloc (Nat.le_refl _) _).alloc (by simp) _
  have R1 : Blk E w.heap.size #[.int .i64 z, .int .i64 r, .int .i64 m, .int .i64 k] 26 := by rw [hE]; exact (Blk.new _ _ _).below ((Below.refl _ _).alloc (Nat.le_refl _) _) (Blk.new _ _ _).lt
  have R2 : Blk E (w.heap.size + 1) #[.int .i64 0, .int .i64 0, .int .i64 0, .int .i64 0, .int .i64 0, .slice none 0 0, .slice none 0 0, .slice none 0 0] 38 := by
    have := Blk.new (w.alloc (.cells #[.int .i64 z, .int .i64 r, .int .i64 m, .int .i64 k] 26)) #[.int .i64 0, .int .i64 0, .int .i64 0, .int .i64 0, .int .i64 0, .slice none 0 0, .slice none 0 0, .slice none 0 0] 38
    rw [World.size_alloc] at this
    rw [hE]; exact this
  have zE : E.heap.size = w.heap.size + 1 + 1 := by rw [hE]; simp
  obtain ⟨zb, rb, mb, kb⟩ := hdB_iff.1 hb
  obtain ⟨V, hV⟩ : ∃ V, V = w.heap.size + 1 := ⟨_, rfl⟩
  rw [← hV] at R2
  have vE : V < E.heap.size := by omega
  have vw : w.heap.size ≤ V := by omega
  have hWV : w.heap.size ≠ V := by omega
  have SU : Hid (∀ u : World, Below E.heap.size E u → Calls Tryz.prog 52 #[.pointer (some ⟨w.heap.size, 0, none⟩)] u fun e w' => e = .returned (.int .i64 (hdV z r m k)) ∧ Below u.heap.size u w') := fun u h => l9Sum_any w.heap.size z r m k u (HdAt.of_blk (R1.below h R1.lt)) hb
  have XB := hdV_bd z r m k
  generalize hdV z r m k = x at *
  have SG : Hid (∀ u : World, Calls Tryz.prog 68 #[.int .i64 s, .int .i64 k, .int .i64 x] u fun r w' => ∃ a1 c1 a2 c2, r = .returned (.agg #[.int .i64 k, .slice a1 (shW s k x (List.range 16)).length c1, .slice a2 (otW s k x (List.range 16)).length c2]) ∧ OwnN w' u.heap.size (.slice a1 (shW s k x (List.range 16)).length c1) (shW s k x (List.range 16)) ∧ OwnN w' u.heap.size (.slice a2 (otW s k x (List.range 16)).length c2) (otW s k x (List.range 16)) ∧ (∀ y z, a1 = some y → a2 = some z → y.block ≠ z.block) ∧ Below u.heap.size u w') := fun u => l8Sign_any s k x u hs kb XB
  have KS : Hid (∀ u : World, Calls Tryz.prog 43 #[.int .i64 s, .int .i64 n] u fun r w' => ∃ a' c', r = .returned (.slice a' (keysL s n).length c') ∧ OwnN w' u.heap.size (.slice a' (keysL s n).length c') (keysL s n) ∧ Below u.heap.size u w') := fun u => l8Keys_any s n u hs (by omega)
  have kl : (keysL s n).length = n := keysL_len s n
  have ka : allS (keysL s n) = true := keysL_all s n
  have KW : Hid (∀ y ∈ keysL s n, (Lit.int .i64 y).wf = true) := allS_wf ka
  have PA : Hid (∀ (u : World) (a : Option Addr) (c : Nat), Has u .i64 a (keysL s n).length (keysL s n) → (keysL s n).length ≤ c → c ≤ maxLen → Calls Tryz.prog 69 #[.slice a (keysL s n).length c, .int .i64 k] u fun r w' => ∃ pa pc, r = .returned (.slice pa (ptM nS 11 (keysL s n) k).length pc) ∧ w'.ownsRow u.heap.size 2 1 (.slice pa (ptM nS 11 (keysL s n) k).length pc) (ptM nS 11 (keysL s n) k).length ((ptM nS 11 (keysL s n) k).map (.int .i64)) ∧ Below u.heap.size u w') := fun u a c h1 h2 h3 => l4Path_any _ a c (keysL s n) k u (Nat.le_refl _) (by omega) ka kb.1 (by omega) h1 h2 h3
  have FIN : Hid (∀ (u : World) (a1 a2 a3 : Option Addr) (c1 c2 c3 : Nat), OwnH u E.heap.size a1 a2 a3 c1 c2 c3 (shW s k x (List.range 16)) (otW s k x (List.range 16)) (ptM nS 11 (keysL s n) k) → OwnH u w.heap.size a1 a2 a3 c1 c2 c3 (shW s k x (List.range 16)) (otW s k x (List.range 16)) (ptM nS 11 (keysL s n) k)) := fun u a1 a2 a3 c1 c2 c3 h => h.mono (by omega)
  generalize shW s k x (List.range 16) = sh at *
  generalize otW s k x (List.range 16) = ot at *
  generalize ptM nS 11 (keysL s n) k = P at *
  generalize keysL s n = K at *
  have R1H : Hid (Blk E w.heap.size #[.int .i64 z, .int .i64 r, .int .i64 m, .int .i64 k] 26) := R1
  have EZ : Hid (E.heap.size = w.heap.size + 1 + 1) := zE
  have WV : Hid (w.heap.size + 1 = V) := hV.symm
  clear hb hs hn hk zb rb mb kb XB kl ka R1 zE hV
  go_enter Tryz.func39, Tryz.ntmps39
  go_wp2_with fail
  simp only [← hE]
  clear hE
  rw [WV.out]
  refine wp_region_noPanic ?_
  refine wp_region_held_drew (S := fun u => Blk u w.heap.size #[.int .i64 z, .int .i64 r, .int .i64 m, .int .i64 k] 26) (by kernel_rfl) (R1H.out.below (Below.refl E.heap.size E).drew R1H.out.lt) (fun hs => ?_)
  have D : Below E.heap.size E E.drew := (Below.refl _ _).drew
  obtain ⟨XD, hXD⟩ := al_w D
  rw [← hXD] at hs D
  have RV := R2.below D vE
  simp only [← hXD]
  clear hXD R2
  refine take_at (i := 0) (d := some 7) (v := ?mv1) rfl rfl (by kernel_rfl) (by kernel_rfl) (by kernel_rfl) (fun _ _ _ h => h) (Or.inl ⟨by rfl, ?my1⟩) hs ?mg1
  case my1 => (intro z hSz; (have hq := hSz; have e0 := hq.cell 0; have e1 := hq.cell 1; have e2 := hq.cell 2; have e3 := hq.cell 3; have e4 := hq.lt; simp at e0 e1 e2 e3); go_simp; (try with_reducible rfl))
  try simp only [Act.put, List.setIfInBounds_toArray, List.set_cons_zero, List.set_cons_succ]
  refine take_at (i := 1) (d := some 8) (v := ?mv2) rfl rfl (by kernel_rfl) (by kernel_rfl) (by kernel_rfl) (fun _ _ _ h => h) (Or.inl ⟨by rfl, ?my2⟩) hs ?mg2
  case my2 => (intro z hSz; (have hq := hSz; have e0 := hq.cell 0; have e1 := hq.cell 1; have e2 := hq.cell 2; have e3 := hq.cell 3; have e4 := hq.lt; simp at e0 e1 e2 e3); go_simp; (try with_reducible rfl))
  try simp only [Act.put, List.setIfInBounds_toArray, List.set_cons_zero, List.set_cons_succ]
  refine take_at (i := 2) (d := some 9) (v := ?mv3) rfl rfl (by kernel_rfl) (by kernel_rfl) (by kernel_rfl) (fun _ _ _ h => h) (Or.inl ⟨by rfl, ?my3⟩) hs ?mg3
  case my3 => (intro z hSz; (have hq := hSz; have e0 := hq.cell 0; have e1 := hq.cell 1; have e2 := hq.cell 2; have e3 := hq.cell 3; have e4 := hq.lt; simp at e0 e1 e2 e3); go_simp; (try with_reducible rfl))
  try simp only [Act.put, List.setIfInBounds_toArray, List.set_cons_zero, List.set_cons_succ]
  refine take_at (i := 3) (d := some 10) (v := ?mv4) rfl rfl (by kernel_rfl) (by kernel_rfl) (by kernel_rfl) (fun _ _ _ h => h) (Or.inl ⟨by rfl, ?my4⟩) hs ?mg4
  case my4 => (intro z hSz; (have hq := hSz; have e0 := hq.cell 0; have e1 := hq.cell 1; have e2 := hq.cell 2; have e3 := hq.cell 3; have e4 := hq.lt; simp at e0 e1 e2 e3); go_simp; (try with_reducible rfl))
  try simp only [Act.put, List.setIfInBounds_toArray, List.set_cons_zero, List.set_cons_succ]
  refine take_at (i := 6) (d := some 13) (v := ?mv5) rfl rfl (by kernel_rfl) (by kernel_rfl) (by kernel_rfl) (fun _ _ _ h => h) (Or.inl ⟨by rfl, ?my5⟩) hs ?mg5
  case my5 => (intro z hSz; (have hq := hSz; have e0 := hq.cell 0; have e1 := hq.cell 1; have e2 := hq.cell 2; have e3 := hq.cell 3; have e4 := hq.lt; simp at e0 e1 e2 e3); go_simp; (try with_reducible rfl))
  try simp only [Act.put, List.setIfInBounds_toArray, List.set_cons_zero, List.set_cons_succ]
  refine take_at (i := 7) (d := some 14) (v := ?mv6) rfl rfl (by kernel_rfl) (by kernel_rfl) (by kernel_rfl) (fun _ _ _ h => h) (Or.inl ⟨by rfl, ?my6⟩) hs ?mg6
  case my6 => (intro z hSz; (have hq := hSz; have e0 := hq.cell 0; have e1 := hq.cell 1; have e2 := hq.cell 2; have e3 := hq.cell 3; have e4 := hq.lt; simp at e0 e1 e2 e3); go_simp; (try with_reducible rfl))
  try simp only [Act.put, List.setIfInBounds_toArray, List.set_cons_zero, List.set_cons_succ]
  refine take_at (i := 9) (d := some 16) (v := ?mv7) rfl rfl (by kernel_rfl) (by kernel_rfl) (by kernel_rfl) (fun _ _ _ h => h) (Or.inl ⟨by rfl, ?my7⟩) hs ?mg7
  case my7 => (intro z hSz; (have hq := hSz; have e0 := hq.cell 0; have e1 := hq.cell 1; have e2 := hq.cell 2; have e3 := hq.cell 3; have e4 := hq.lt; simp at e0 e1 e2 e3); go_simp; (try with_reducible rfl))
  try simp only [Act.put, List.setIfInBounds_toArray, List.set_cons_zero, List.set_cons_succ]
  refine take_at (i := 10) (d := some 17) (v := ?mv8) rfl rfl (by kernel_rfl) (by kernel_rfl) (by kernel_rfl) (fun _ _ _ h => h) (Or.inl ⟨by rfl, ?my8⟩) hs ?mg8
  case my8 => (intro z hSz; (have hq := hSz; have e0 := hq.cell 0; have e1 := hq.cell 1; have e2 := hq.cell 2; have e3 := hq.cell 3; have e4 := hq.lt; simp at e0 e1 e2 e3); go_simp; (try with_reducible rfl))
  try simp only [Act.put, List.setIfInBounds_toArray, List.set_cons_zero, List.set_cons_succ]
  refine wpAnyH_ready (rs := [4]) (by kernel_rfl) (by simp) ?_
  refine AllReadyH.cons rfl (fun K' hK' => ?_) AllReadyH.nil
  go_simp
  refine (SU.out _ D).mono ?_
  rintro _ ua ⟨rfl, hba⟩
  refine hK'.out _ _ (hs.below hba hs.lt) (fun hs => ?_)
  clear hK' K'
  try simp only [Act.put, List.setIfInBounds_toArray, List.set_cons_zero, List.set_cons_succ]
  replace D := D.trans (hba.mono D.size)
  replace RV := RV.below hba RV.lt
  refine wpAnyH_ready (rs := [5]) (by kernel_rfl) (by simp) ?_
  refine AllReadyH.cons rfl (fun K' hK' => ?_) AllReadyH.nil
  go_simp
  refine (SG.out ua).mono ?_
  rintro _ ub ⟨a1, c1, a2, c2, rfl, O1, O2, ap, hbb⟩
  have za := D.size
  refine hK'.out _ _ (hs.below hbb hs.lt) (fun hs => ?_)
  clear hK' K'
  try simp only [Act.put, List.setIfInBounds_toArray, List.set_cons_zero, List.set_cons_succ]
  replace D := D.trans (hbb.mono D.size)
  replace RV := RV.below hbb RV.lt
  refine wpAnyH_ready (rs := [8]) (by kernel_rfl) (by simp) ?_
  refine AllReadyH.cons rfl (fun K' hK' => ?_) AllReadyH.nil
  go_simp
  refine (KS.out ub).mono ?_
  rintro _ uc ⟨a4, c4, rfl, O4, hbc⟩
  refine hK'.out _ _ (hs.below hbc hs.lt) (fun hs => ?_)
  clear hK' K'
  try simp only [Act.put, List.setIfInBounds_toArray, List.set_cons_zero, List.set_cons_succ]
  replace D := D.trans (hbc.mono D.size)
  replace RV := RV.below hbc RV.lt
  replace O1 := own_below O1 hbc
  replace O2 := own_below O2 hbc
  have H4 := has_of_own O4 KW.out
  have cp4 := own_caps9 O4
  refine wpAnyH_ready (rs := [11]) (by kernel_rfl) (by simp) ?_
  refine AllReadyH.cons rfl (fun K' hK' => ?_) AllReadyH.nil
  go_simp
  refine (PA.out uc a4 c4 H4 cp4.1 cp4.2).mono ?_
  rintro _ ud ⟨a3, c3, rfl, O3, hbd⟩
  have zc := D.size
  refine hK'.out _ _ (hs.below hbd hs.lt) (fun hs => ?_)
  clear hK' K'
  try simp only [Act.put, List.setIfInBounds_toArray, List.set_cons_zero, List.set_cons_succ]
  replace D := D.trans (hbd.mono D.size)
  replace RV := RV.below hbd RV.lt
  have OH : OwnH ud E.heap.size a1 a2 a3 c1 c2 c3 sh ot P := ⟨own_mono (own_below O1 hbd) za, own_mono (own_below O2 hbd) za, own_mono O3 zc, ap, fun x y e1 e2 => by have h1 := own_lt9 O1 x e1; have h2 := own_base O3 y e2; omega, fun x y e1 e2 => by have h1 := own_lt9 O2 x e1; have h2 := own_base O3 y e2; omega⟩
  refine take_at (i := 12) (d := some 19) (v := ?mv9) rfl rfl (by kernel_rfl) (by kernel_rfl) (by kernel_rfl) (fun _ _ _ h => h) (Or.inl ⟨by rfl, ?my9⟩) hs ?mg9
  case my9 => (intro z hSz; (have hq := hSz; have e0 := hq.cell 0; have e1 := hq.cell 1; have e2 := hq.cell 2; have e3 := hq.cell 3; have e4 := hq.lt; simp at e0 e1 e2 e3); go_simp; (try with_reducible rfl))
  try simp only [Act.put, List.setIfInBounds_toArray, List.set_cons_zero, List.set_cons_succ]
  refine wpAnyH_ready (rs := [13]) (by kernel_rfl) (by simp) ?_
  refine AllReadyH.cons rfl (fun K' hK' => ?_) AllReadyH.nil
  clear O1 O2 O3 O4 ap H4 cp4 za zc hba hbb hbc hbd
  have DW := BE.trans (D.mono BE.size)
  refine wp_store_row 38 _ _ rfl V #[.int .i64 z, .int .i64 r, .int .i64 m, .int .i64 k, .int .i64 k, .slice a1 sh.length c1, .slice a2 ot.length c2, .slice a3 P.length c3] rfl rfl 38 _ RV rfl rfl (by kernel_rfl) ?_
  refine hK'.out _ _ (row_keep hWV hs) (fun hs => ?_)
  clear hK' K'
  try simp only [Act.put, List.setIfInBounds_toArray, List.set_cons_zero, List.set_cons_succ]
  replace RV := row_new (cs := #[.int .i64 z, .int .i64 r, .int .i64 m, .int .i64 k, .int .i64 k, .slice a1 sh.length c1, .slice a2 ot.length c2, .slice a3 P.length c3]) RV
  replace OH := OwnH.row (g := V) (cs := #[.int .i64 z, .int .i64 r, .int .i64 m, .int .i64 k, .int .i64 k, .slice a1 sh.length c1, .slice a2 ot.length c2, .slice a3 P.length c3]) OH vE
  have DX := below_setRow DW vw #[.int .i64 z, .int .i64 r, .int .i64 m, .int .i64 k, .int .i64 k, .slice a1 sh.length c1, .slice a2 ot.length c2, .slice a3 P.length c3]
  refine wpAnyH_done (by kernel_rfl) (NoPanic.normal ?_) _
  obtain ⟨X, hX⟩ := al_w DX
  rw [← hX] at RV OH DX
  simp only [← hX]
  clear hX hs DW D
  have k0 := RV.cell 0
  have k1 := RV.cell 1
  have k2 := RV.cell 2
  have k3 := RV.cell 3
  have k4 := RV.cell 4
  have k5 := RV.cell 5
  have k6 := RV.cell 6
  have k7 := RV.cell 7
  simp at k0 k1 k2 k3 k4 k5 k6 k7
  have OQ : Hid (OwnH X E.heap.size a1 a2 a3 c1 c2 c3 sh ot P) := OH
  clear RV OH
  go_wp2
  refine bodyPost_ret (v := .agg #[.int .i64 z, .int .i64 r, .int .i64 m, .int .i64 k, .int .i64 k, .slice a1 sh.length c1, .slice a2 ot.length c2, .slice a3 P.length c3]) (by simp [results, Tryz.results39, go_sem, k0, k1, k2, k3, k4, k5, k6, k7]) rfl ⟨a1, c1, a2, c2, a3, c3, rfl, FIN.out _ _ _ _ _ _ _ OQ.out, DX⟩

end Go.Proofs.YtffidkoejlebeaaGreatDoor
