/- Contracts: the program's rise of a key through the levels of a map. -/
import Derived.Test.YtjkehgnelfgoaaaDoorIAb
import Derived.Test.YtjkehgnelfgoaaaDoorILf
import Derived.Laws.Bits64
import Derived.Laws.Shifts
namespace Go.Proofs.YtjkehgnelfgoaaaDoor
open Go.ChangeShapes Go.WideShapes Go.ChangeAt Go.RowKit
set_option linter.unusedVariables false
set_option linter.unusedSimpArgs false

/-- The state of the rounds: where the rise lies, and its path. -/
structure RiS (V : Nat) (key : Int) (lf : Value) (W0 : World) (us : List Int) (W : World) (pv : Value) : Prop where
  v : Blk W V #[.int .i64 key, lf, pv] 74
  prow : W.ownsRow W0.heap.size 2 1 pv us.length (us.map (.int .i64))
  fr : Fr (fun k => k = V) W0 W
theorem RiS.below {V : Nat} {key : Int} {lf : Value} {W0 W W' : World} {us : List Int} {pv : Value} (h : RiS V key lf W0 us W pv) (hb : Below W.heap.size W W') : RiS V key lf W0 us W' pv :=
  ⟨h.v.below hb h.v.lt, own_fr (M := fun _ => False) h.prow (.of_below hb (Nat.le_refl _)) (fun _ _ => id), h.fr.trans (M' := fun _ => False) (.of_below hb (Nat.le_refl _)) (fun _ _ e => e.elim)⟩
theorem RiS.appendP {V : Nat} {key : Int} {lf : Value} {W0 W W2 W3 : World} {pv pv' : Value} {x : Int} {us : List Int} (h : RiS V key lf W0 us W pv) (hV : V < W0.heap.size)
    (hb : Below W.heap.size W W2) (hown : W3.ownsRow W0.heap.size 2 1 pv' (us.length + 1) (us.map (.int .i64) ++ [.int .i64 x])) (hg : W2.grownBy W3 pv.ownBlock) :
    RiS V key lf W0 (us ++ [x]) (W3.setCell ⟨V, 2, none⟩ pv') pv' ∧ Fr (fun k => k = V ∨ pv.ownBlock = some k) W (W3.setCell ⟨V, 2, none⟩ pv') ∧ Blk W3 V #[.int .i64 key, lf, pv] 74 := by
  have h2 := h.below hb
  have f3 : Fr (fun k => pv.ownBlock = some k) W2 W3 := .of_grown hg (fun k e => e)
  have hav : ∀ k, pv.ownBlock = some k → W0.heap.size ≤ k := fun k e => (h2.prow.lt k e).1
  have v3 : Blk W3 V #[.int .i64 key, lf, pv] 74 := h2.v.fr f3 (fun e => by have := hav V e; omega)
  have fs : Fr (fun k => k = V) W3 (W3.setCell ⟨V, 2, none⟩ pv') := (Fr.refl _ _).setCell _ _ rfl
  refine ⟨⟨by have := v3.set 2 pv'; simpa using this, ?_, ?_⟩, ?_, v3⟩
  · have := own_fr hown fs (fun g e1 e2 => by have := (hown.lt g e1).1; omega)
    simpa using this
  · refine (h2.fr.trans f3 (fun i hi e => ?_)).trans fs (fun i hi e => e)
    have := hav i e; omega
  · exact ((Fr.of_below hb (Nat.le_refl _)).trans f3 (fun i _ e => .inr e)).trans fs (fun i _ e => .inl e)
theorem Has.fr {M : Nat → Prop} {w w' : World} {k : IntKind} {b off n : Nat} {zs : List Int} (h : Has w k (some ⟨b, off, none⟩) n zs) (hf : Fr M w w') (hn : ¬ M b) : Has w' k (some ⟨b, off, none⟩) n zs := by
  refine ⟨h.1, h.2.1, ?_⟩
  rcases h.2.2 with h0 | ⟨b', off', e, hlt, hc⟩
  · exact .inl h0
  · have e' := e
    simp at e'
    obtain ⟨rfl, rfl⟩ := e'
    exact .inr ⟨b, off, rfl, Nat.lt_of_lt_of_le hlt hf.size, fun i hi => (World.cell?_of_block (hf.block b hlt hn)).trans (hc i hi)⟩
theorem sib_bits {q : Int} (h0 : 0 ≤ q) (h1 : q ≤ 63) : bits .xor .i64 q 1 = sibN q := by
  obtain ⟨n, rfl⟩ := Int.eq_ofNat_of_zero_le h0
  have hn : n < 64 := by omega
  have : ∀ k : Fin 64, bits .xor .i64 ((k.val : Nat) : Int) 1 = sibN ((k.val : Nat) : Int) := by decide +kernel
  exact this ⟨n, hn⟩
theorem rise_facts {k : Int} {j : Nat} (hj : j < 6) (h0 : 0 ≤ k) (h1 : k ≤ 63) : k / 2 ^ j < ((2 ^ (6 - j) : Nat) : Int) ∧ (2 ^ (6 - j) : Nat) % 2 = 0 ∧ (2 ^ (6 - j) : Nat) = 2 * 2 ^ (6 - (j + 1)) ∧ 1 ≤ (2 ^ (6 - (j + 1)) : Nat) ∧ (2 ^ (6 - j) : Nat) ≤ 64 := by
  have : j = 0 ∨ j = 1 ∨ j = 2 ∨ j = 3 ∨ j = 4 ∨ j = 5 := by omega
  rcases this with rfl | rfl | rfl | rfl | rfl | rfl <;> simp <;> omega

theorem leafSums7 (b n s : Nat) (D : DataW Unit) (l : List Sl) (w : World) (hT : Tab w) (hown : World.ownsMap w Tryd.prog 2 (plainElem (H := Unit) Tryd.prog 2) b n D) (hmd : MapD D (slFind l) s) (hok : ∀ s ∈ l, slOk s = true) :
    Calls Tryd.prog 78 #[.map (some b)] w fun r w' => ∃ a' c', r = .returned (.slice a' 64 c') ∧ World.ownsRow w' w.heap.size 2 1 (.slice a' 64 c') 64 ((lvR l 0 64).map (.int .i64)) ∧ Below w.heap.size w w' := by
  refine (leafSums_any b n s D l w hT hown hmd hok).mono ?_
  rintro r w' ⟨a', c', rfl, O, hb⟩
  refine ⟨a', c', rfl, ?_, hb⟩
  have h : World.ownsRow w' w.heap.size 2 1 (.slice a' 64 c') (lvR l 0 64).length ((lvR l 0 64).map (.int .i64)) := O
  rw [lvR_len] at h
  exact h
theorem above7 (l : List Sl) (j n : Nat) (lb lo lc : Nat) (u : World) (hT : Tab u) (h : Has u .i64 (some ⟨lb, lo, none⟩) (2 * n) (lvR l j (2 * n))) (h1 : 1 ≤ n) (h2 : n ≤ 400) :
    Calls Tryd.prog 79 #[.slice (some ⟨lb, lo, none⟩) (2 * n) lc] u fun r w' => ∃ g c', r = .returned (.slice (some ⟨g, 0, none⟩) n c') ∧ u.heap.size ≤ g ∧ Has w' .i64 (some ⟨g, 0, none⟩) n (lvR l (j + 1) n) ∧ Below u.heap.size u w' := by
  have hl := lvR_len l j (2 * n)
  have hl2 := lvR_len l (j + 1) n
  have := levelAbove_any (some ⟨lb, lo, none⟩) lc (lvR l j (2 * n)) u hT (by rw [hl]; exact h) (by omega) (by omega) (lvR_all l j _)
  rw [lvR_up, hl2, hl] at this
  refine this.mono ?_
  rintro r w' ⟨pa, pc, rfl, O, hb⟩
  have O' : World.ownsRow w' u.heap.size 2 1 (.slice pa n pc) n ((lvR l (j + 1) n).map (.int .i64)) := by
    have h : World.ownsRow w' u.heap.size 2 1 (.slice pa n pc) (lvR l (j + 1) n).length ((lvR l (j + 1) n).map (.int .i64)) := O
    rw [hl2] at h
    exact h
  have H := has_of_own O' (allS_wf (lvR_all l (j + 1) n))
  rw [hl2] at H
  rcases O'.2 with ⟨e1, h0⟩ | ⟨g, cap, cur, e1, hg, _⟩
  · omega
  · simp at e1
    obtain ⟨rfl, rfl⟩ := e1
    exact ⟨g, pc, rfl, hg, H, hb⟩

set_option maxRecDepth 100000 in
set_option maxHeartbeats 8000000 in
theorem riseOf_any (b n s : Nat) (D : DataW Unit) (l : List Sl) (key : Int) (w : World) (hT : Tab w) (hown : World.ownsMap w Tryd.prog 2 (plainElem (H := Unit) Tryd.prog 2) b n D) (hmd : MapD D (slFind l) s) (hok : ∀ s ∈ l, slOk s = true) (hk : 0 ≤ key ∧ key ≤ 63) :
    Calls Tryd.prog 44 #[.map (some b), .int .i64 key] w fun r w' => ∃ a1 c1 a2 c2, r = .returned (.agg #[.int .i64 key, .slice a1 (slLeaf l key).length c1, .slice a2 (mpP l key).length c2]) ∧ OwnB w' w.heap.size a1 c1 (slLeaf l key) ∧ OwnI w' w.heap.size (.slice a2 (mpP l key).length c2) (mpP l key) ∧ Below w.heap.size w w' := by
  obtain ⟨i0, hi0, hz0, hz1, hz2⟩ := info_parts info64
  have hb := hown.lt
  obtain ⟨E, hE⟩ : ∃ E, E = w.alloc (.cells #[.int .i64 0, .slice none 0 0, .slice none 0 0] 74) := ⟨_, rfl⟩
  have EW : Below w.heap.size w E := by rw [hE]; exact (Below.refl _ _).alloc (Nat.le_refl _) _
  have zE : E.heap.size = w.heap.size + 1 := by rw [hE]; simp
  have RE : Blk E w.heap.size #[.int .i64 0, .slice none 0 0, .slice none 0 0] 74 := by rw [hE]; exact Blk.new _ _ _
  have LF : Hid (∀ u : World, Below w.heap.size w u → Calls Tryd.prog 77 #[.map (some b), .int .i64 key] u fun r w' => ∃ a' c', r = .returned (.slice a' (slLeaf l key).length c') ∧ OwnB w' u.heap.size a' c' (slLeaf l key) ∧ Below u.heap.size u w') := fun u hu => leaf_any b n s D l key u (hT.below hu (Nat.le_refl _)) (owns_below hown hu hb) hmd hok hk
  have LS : Hid (∀ u : World, Below w.heap.size w u → Calls Tryd.prog 78 #[.map (some b)] u fun r w' => ∃ a' c', r = .returned (.slice a' 64 c') ∧ World.ownsRow w' u.heap.size 2 1 (.slice a' 64 c') 64 ((lvR l 0 64).map (.int .i64)) ∧ Below u.heap.size u w') := fun u hu => leafSums7 b n s D l u (hT.below hu (Nat.le_refl _)) (owns_below hown hu hb) hmd hok
  have TH : Hid (∀ u : World, Below w.heap.size w u → Tab u) := fun u hu => hT.below hu (Nat.le_refl _)
  clear hown hmd hok hT
  go_enter Tryd.func44, Tryd.ntmps44
  go_wp2_with fail
  simp only [← hE]
  clear hE
  refine (LF.out _ EW).mono ?_
  rintro r u1 ⟨a1, c1, rfl, O1, hb1⟩
  have B1 := EW.trans (hb1.mono (by omega))
  obtain ⟨V, hV⟩ : ∃ V, V = u1.heap.size := ⟨_, rfl⟩
  obtain ⟨X1, hX1⟩ : ∃ X1, X1 = u1.alloc (.cells #[.int .i64 key, .slice a1 (slLeaf l key).length c1, .slice none 0 0] 74) := ⟨_, rfl⟩
  have b1x : Below u1.heap.size u1 X1 := by rw [hX1]; exact (Below.refl _ _).alloc (Nat.le_refl _) _
  have VX : Blk X1 V #[.int .i64 key, .slice a1 (slLeaf l key).length c1, .slice none 0 0] 74 := by rw [hX1, hV]; exact Blk.new _ _ _
  have zX : X1.heap.size = V + 1 := by rw [hX1, hV]; simp
  have z1 := hb1.size
  go_wp2_with fail
  simp only [← hX1, ← hV]
  clear hX1
  refine (LS.out _ (B1.trans (b1x.mono (by have := B1.size; omega)))).mono ?_
  rintro r W0 ⟨a2, c2, rfl, O2, hb2⟩
  have z2 := hb2.size
  have B2 : Below w.heap.size w W0 := (B1.trans (b1x.mono (by have := B1.size; omega))).trans (hb2.mono (by omega))
  have hVW : V < W0.heap.size := by omega
  have LR : Hid (OwnB W0 E.heap.size a1 c1 (slLeaf l key)) := own_below (own_below O1 b1x) hb2
  have RB : Hid (Blk W0 w.heap.size #[.int .i64 0, .slice none 0 0, .slice none 0 0] 74) := ((RE.below hb1 (by omega)).below b1x (by omega)).below hb2 (by omega)
  have R0 : RiS V key (.slice a1 (slLeaf l key).length c1) W0 [] W0 (.slice none 0 0) := ⟨VX.below hb2 (by omega), World.ownsRow_nil _ _ _ _, Fr.refl _ _⟩
  obtain ⟨lb0, lo0, hla, hlb0⟩ : ∃ lb lo, a2 = some ⟨lb, lo, none⟩ ∧ X1.heap.size ≤ lb := by
    rcases O2.2 with ⟨e1, h0⟩ | ⟨g, cap, cur, e1, hg, _⟩
    · simp [lvR_len] at h0
    · simp at e1
      exact ⟨g, 0, e1.1, hg⟩
  subst hla
  have HL0 : Has W0 .i64 (some ⟨lb0, lo0, none⟩) 64 (lvR l 0 64) := by
    have hlen := lvR_len l 0 64
    have h : World.ownsRow W0 X1.heap.size 2 1 (.slice (some ⟨lb0, lo0, none⟩) 64 c2) 64 ((lvR l 0 64).map (.int .i64)) := O2
    have := has_of_own h (allS_wf (lvR_all l 0 64))
    rw [hlen] at this
    exact this
  have hVE : E.heap.size ≤ V := by omega
  have BW : Hid (∀ Y : World, Fr (fun k => k = V) W0 Y → Below w.heap.size w Y) := fun Y hf => B2.trans (hf.below (B := w.heap.size) (by rintro j e; omega) (by omega))
  have LRY : Hid (∀ Y : World, Fr (fun k => k = V) W0 Y → OwnB Y E.heap.size a1 c1 (slLeaf l key)) := fun Y hf => own_fr LR.out hf (fun g e1 e2 => by
    obtain ⟨cs, hc⟩ := own_cells LR.out e1
    rw [show g = V from e2, show W0.heap[V]? = _ from R0.v] at hc
    simp at hc)
  have RBY : Hid (∀ Y : World, Fr (fun k => k = V) W0 Y → Blk Y w.heap.size #[.int .i64 0, .slice none 0 0, .slice none 0 0] 74) := fun Y hf => RB.out.fr hf (by omega)
  have SN : Hid (∀ j, j < 6 → (mpP l key).take (j + 1) = (mpP l key).take j ++ [mpS l key j]) := fun j hj => mpP_snoc l key hj
  have EN : Hid ((mpP l key).take 6 = mpP l key) := by show _ = _; rw [List.take_of_length_le]; rw [mpP_len]; omega
  have PL : Hid (∀ j, j ≤ 6 → ((mpP l key).take j).length = j) := fun j hj => by rw [List.length_take, mpP_len]; omega
  have LU : Hid (∀ i n, upL nS (lvR l i (2 * n)) = lvR l (i + 1) n) := fun i n => lvR_up l i n
  have LA : Hid (∀ i n, allS (lvR l i n) = true) := fun i n => lvR_all l i n
  have LN : Hid (∀ i n, (lvR l i n).length = n) := fun i n => lvR_len l i n
  have LB : Hid (∀ (i n : Nat), 0 ≤ key / 2 ^ i → key / 2 ^ i < n → n % 2 = 0 → 0 ≤ sibN (key / 2 ^ i) ∧ sibN (key / 2 ^ i) < n ∧ (lvR l i n)[(sibN (key / 2 ^ i)).toNat]? = some (mpS l key i)) := fun i n h0 h1 hn => lvR_sib l key i n h0 h1 hn
  have hsz : w.heap.size < E.heap.size := by omega
  have hlV : lb0 ≠ V := by omega
  generalize hlz : slLeaf l key = lz at *
  generalize hpp : mpP l key = P at *
  have HLZ : Hid (slLeaf l key = lz) := hlz
  have HPP : Hid (mpP l key = P) := hpp
  clear hlz hpp
  subst hV
  generalize u1.heap.size = V at *
  clear LF LS RE EW VX O1 O2 hb1 hb2 b1x B1 LR RB hlb0 zX z1 z2 zE
  go_wp2_with fail
  go_loopw [6, 15] (fun v i wr => ∃ (j : Nat) (pv : Value) (lb lo lc : Nat), j ≤ 6 ∧ i = .int .i64 j ∧ v = .slice (some ⟨lb, lo, none⟩) (2 ^ (6 - j)) lc ∧ RiS V key (.slice a1 lz.length c1) W0 (P.take j) wr pv ∧ Has wr .i64 (some ⟨lb, lo, none⟩) (2 ^ (6 - j)) (lvR l j (2 ^ (6 - j))) ∧ lb ≠ V ∧ pv.ownBlock ≠ some lb) (fun _ i _ => 6 - (intOf i).toNat)
  case atStart => exact ⟨0, .slice none 0 0, lb0, lo0, c2, Nat.zero_le _, rfl, rfl, R0, HL0, hlV, by simp [Value.ownBlock]⟩
  case round =>
    clear R0 HL0 hlV
    obtain ⟨j, pv, lb, loff, lc, hj, rfl, rfl, hi, hlv, hlV, hlp⟩ := hrel
    have hps := PL.out j hj
    by_cases hlt : j < 6
    · have hlt' : (j : Int) < 6 := by omega
      obtain ⟨q1, q2, q3, q4, q5⟩ := rise_facts hlt hk.1 hk.2
      obtain ⟨_, ⟨f3, f4⟩, _, _, _, _⟩ := path_facts hlt hk.1 hk.2
      obtain ⟨g1, g2, g3⟩ := LB.out j _ f3 q1 q2
      have hx := sib_bits f3 f4
      have SNj := SN.out j hlt
      obtain ⟨N1, hN1⟩ : ∃ N1 : Nat, (2 ^ (6 - (j + 1)) : Nat) = N1 := ⟨_, rfl⟩
      have HN1 : Hid ((2 ^ (6 - (j + 1)) : Nat) = N1) := hN1
      rw [hN1] at q3 q4
      rw [q3] at q1 q5 g2 g3 hlv ⊢
      obtain ⟨Q, hQ⟩ : ∃ Q, key / 2 ^ j = Q := ⟨_, rfl⟩
      rw [hQ] at f3 f4 q1 g1 g2 g3 hx
      obtain ⟨m, hm⟩ := Int.eq_ofNat_of_zero_le g1
      rw [hm] at hx g2 g3
      have hmn : m < 2 * N1 := by omega
      have hm' : (m : Int) < 2 * (N1 : Int) := by omega
      generalize mpS l key j = y at *
      obtain ⟨X, hX⟩ : ∃ X, X = wr := ⟨_, rfl⟩
      subst hX
      have hltb : lb < X.heap.size := by
        rcases hlv.2.2 with h0 | ⟨b', o', e, h1, _⟩
        · omega
        · simp at e; omega
      have hcell : X.cell? ⟨lb, loff + m, none⟩ = some (.int .i64 y) := by
        rcases hlv.2.2 with h0 | ⟨b', o', e, _, hc⟩
        · omega
        · have e' := e
          simp at e'
          obtain ⟨rfl, rfl⟩ := e'
          rw [hc m hmn, List.getD_eq_getElem?_getD]
          have : (lvR l j (2 * N1))[m]? = some y := by simpa using g3
          rw [this]; rfl
      have hS0 : X.drew.cell? ⟨lb, loff + m, none⟩ = some (.int .i64 y) := hcell
      have hid : RiS V key (.slice a1 lz.length c1) W0 (P.take j) X.drew pv := hi.below (Below.refl _ _).drew
      have hd2 : RiS V key (.slice a1 lz.length c1) W0 (P.take j) (X.alloc (.cells #[.int .i64 y] 2)).drew pv := hi.below (((Below.refl _ _).alloc (Nat.le_refl _) _).drew)
      have hd2s : W0.heap.size ≤ (X.alloc (.cells #[.int .i64 y] 2)).drew.heap.size := hd2.fr.size
      have hltc : lb < (X.alloc (.cells #[.int .i64 y] 2)).drew.heap.size := by show lb < (X.alloc (.cells #[.int .i64 y] 2)).heap.size; simp; omega
      have hd2p : World.ownsRow (X.alloc (.cells #[.int .i64 y] 2)).drew W0.heap.size 2 1 pv j ((P.take j).map (.int .i64)) := by
        have := hd2.prow
        rw [hps] at this
        exact this
      have hs2 : (X.alloc (.cells #[.int .i64 y] 2)).drew.cell? ⟨lb, loff + m, none⟩ = some (.int .i64 y) := (((Below.refl X.heap.size X).alloc (Nat.le_refl _) (.cells #[.int .i64 y] 2)).cell (p := ⟨lb, loff + m, none⟩) hltb).trans hcell
      have HSN : Hid (P.take (j + 1) = P.take j ++ [y]) := SNj
      have HPS : Hid ((P.take j).length = j) := hps
      have HN3 : Hid ((2 ^ (6 - j) : Nat) = 2 * N1) := q3
      clear SN EN PL LU LA LN LB SNj g3 hcell hN1 q3
      generalize hpsd : P.take j = ps at *
      clear hpsd
      go_wp2_with fail
      refine wp_region_noPanic ?_
      refine wp_region_held_drew (S := fun u => u.cell? ⟨lb, loff + m, none⟩ = some (.int .i64 y)) (by kernel_rfl) hS0 (fun hHeld => ?_)
      refine take_at (i := 0) (d := some 18) (v := ?mv0) rfl rfl (by kernel_rfl) (by kernel_rfl) (by kernel_rfl) (fun _ _ _ h => h) (Or.inl ⟨by rfl, ?my0⟩) (by assumption) ?mg0
      case my0 => (intro z hSz; (try dsimp only at hSz); go_simp; (try with_reducible rfl))
      try simp only [Act.put, List.setIfInBounds_toArray, List.set_cons_zero, List.set_cons_succ]
      refine take_at (i := 2) (d := some 20) (v := ?mv2) rfl rfl (by kernel_rfl) (by kernel_rfl) (by kernel_rfl) (fun _ _ _ h => h) (Or.inl ⟨by rfl, ?my2⟩) (by assumption) ?mg2
      case my2 => (intro z hSz; (try dsimp only at hSz); go_simp; (try with_reducible rfl))
      try simp only [Act.put, List.setIfInBounds_toArray, List.set_cons_zero, List.set_cons_succ]
      refine take_at (i := 3) (d := some 21) (v := ?mv3) rfl rfl (by kernel_rfl) (by kernel_rfl) (by kernel_rfl) (fun _ _ _ h => h) (Or.inl ⟨by rfl, ?my3⟩) (by assumption) ?mg3
      case my3 => (intro z hSz; (try dsimp only at hSz); go_simp; (try with_reducible rfl))
      try simp only [Act.put, List.setIfInBounds_toArray, List.set_cons_zero, List.set_cons_succ]
      refine take_at (i := 4) (d := some 22) (v := ?mv4) rfl rfl (by kernel_rfl) (by kernel_rfl) (by kernel_rfl) (fun _ _ _ h => h) (Or.inl ⟨by rfl, ?my4⟩) (by assumption) ?mg4
      case my4 => (intro z hSz; (try dsimp only at hSz); go_simp; (try with_reducible rfl))
      try simp only [Act.put, List.setIfInBounds_toArray, List.set_cons_zero, List.set_cons_succ]
      refine take_at (i := 5) (d := some 23) (v := ?mv5) rfl rfl (by kernel_rfl) (by kernel_rfl) (by kernel_rfl) (fun _ _ _ h => h) (Or.inl ⟨by rfl, ?my5⟩) (by assumption) ?mg5
      case my5 => (intro z hSz; (try dsimp only at hSz); go_simp; (try with_reducible rfl))
      try simp only [Act.put, List.setIfInBounds_toArray, List.set_cons_zero, List.set_cons_succ]
      refine take_at (i := 6) (d := some 24) (v := ?mv6) rfl rfl (by kernel_rfl) (by kernel_rfl) (by kernel_rfl) (fun _ _ _ h => h) (Or.inl ⟨by rfl, ?my6⟩) (by assumption) ?mg6
      case my6 => (intro z hSz; (try dsimp only at hSz); go_simp; (try with_reducible rfl))
      try simp only [Act.put, List.setIfInBounds_toArray, List.set_cons_zero, List.set_cons_succ]
      refine take_at (i := 7) (d := some 25) (v := ?mv7) rfl rfl (by kernel_rfl) (by kernel_rfl) (by kernel_rfl) (fun _ _ _ h => h) (Or.inl ⟨by rfl, ?my7⟩) (by assumption) ?mg7
      case my7 => (intro z hSz; (try dsimp only at hSz); go_simp; (try with_reducible rfl))
      try simp only [Act.put, List.setIfInBounds_toArray, List.set_cons_zero, List.set_cons_succ]
      refine take_at (i := 8) (d := some 26) (v := ?mv8) rfl rfl (by kernel_rfl) (by kernel_rfl) (by kernel_rfl) (fun _ _ _ h => h) (Or.inl ⟨by rfl, ?my8⟩) (by assumption) ?mg8
      case my8 => (intro z hSz; (try dsimp only at hSz); go_simp; (try with_reducible rfl))
      try simp only [Act.put, List.setIfInBounds_toArray, List.set_cons_zero, List.set_cons_succ]
      refine wpAnyH_ready (rs := [1, 9]) (by kernel_rfl) (by simp) ?_
      refine AllReadyH.cons rfl (fun K' hK' => ?_) (AllReadyH.cons rfl (fun K' hK' => ?_) AllReadyH.nil)
      · have v0 := (hid).v.cell 2
        simp at v0
        go_simp
        refine hK'.out _ _ (by assumption) (fun _ => ?_)
        clear hK' K'
        try simp only [Act.put, List.setIfInBounds_toArray, List.set_cons_zero, List.set_cons_succ]
        refine wpAnyH_ready (rs := [9]) (by kernel_rfl) (by simp) ?_
        refine AllReadyH.cons rfl (fun K' hK' => ?_) AllReadyH.nil
        go_simp
        refine hK'.out _ _ hs2 (fun _ => ?_)
        clear hK' K'
        try simp only [Act.put, List.setIfInBounds_toArray, List.set_cons_zero, List.set_cons_succ]
        refine wpAnyH_ready (rs := [10]) (by kernel_rfl) (by simp) ?_
        refine AllReadyH.cons rfl (fun K' hK' => ?_) AllReadyH.nil
        refine step_app1 rfl _ _ 27 rfl W0.heap.size 2 i0 Tryd.underlying27 hi0 hz0 hz1 hz2 pv j (ps.map (.int .i64)) rfl hd2p X.heap.size 1 y rfl (by simp [go_sem]) (by omega) hd2s ?_
        intro g' c' w3 hown hgrow hnew
        obtain ⟨E1, E2, E3⟩ := hi.appendP hVW (((Below.refl _ X).alloc (Nat.le_refl _) _).drew) (by rw [HPS.out]; exact hown) hgrow
        have hs3 : w3.cell? ⟨lb, loff + m, none⟩ = some (.int .i64 y) := ((Fr.of_grown (M := fun k => pv.ownBlock = some k) hgrow (fun k e => e)).block lb hltc (fun e => hlp e) |> fun e => World.cell?_of_block e).trans hs2
        refine hK'.out _ _ hs3 (fun _ => ?_)
        clear hK' K'
        try simp only [Act.put, List.setIfInBounds_toArray, List.set_cons_zero, List.set_cons_succ]
        have v3 := E3.cell 2
        have v4 := E3.frozen 2
        simp at v3
        refine wpAnyH_ready (rs := [11]) (by kernel_rfl) (by simp) ?_
        refine AllReadyH.cons rfl (fun K' hK' => ?_) AllReadyH.nil
        go_simp
        refine hK'.out _ _ hs3 (fun _ => ?_)
        clear hK' K'
        try simp only [Act.put, List.setIfInBounds_toArray, List.set_cons_zero, List.set_cons_succ]
        refine wpAnyH_ready (rs := [12]) (by kernel_rfl) (by simp) ?_
        refine AllReadyH.cons rfl (fun K' hK' => ?_) AllReadyH.nil
        go_simp
        refine hK'.out _ _ ((World.cell?_setCell_other (h := by first | (simp; omega) | simp) ..).trans hs3) (fun _ => ?_)
        clear hK' K'
        try simp only [Act.put, List.setIfInBounds_toArray, List.set_cons_zero, List.set_cons_succ]
        refine wpAnyH_done (by kernel_rfl) (NoPanic.normal ?_) _
        have LV3 : Has (w3.setCell ⟨V, 2, none⟩ (.slice (some ⟨g', 0, none⟩) (j + 1) c')) .i64 (some ⟨lb, loff, none⟩) (2 * N1) (lvR l j (2 * N1)) := hlv.fr E2 (by rintro (e | e); exact hlV e; exact hlp e)
        have T3 := TH.out _ (BW.out _ E1.fr)
        have hg3 := (E1.prow.lt g' rfl).2
        clear hi hid hd2 hd2p hd2s hs2 hs3 v0 v3 v4 hown hgrow hnew hlv hS0
        go_wp2_with fail
        refine (above7 l j N1 lb loff lc _ T3 LV3 q4 (by omega)).mono ?_
        rintro r u5 ⟨g5, c5, rfl, hg5, H5, hb5⟩
        have E5 : RiS V key (.slice a1 lz.length c1) W0 (P.take (j + 1)) u5 (.slice (some ⟨g', 0, none⟩) (j + 1) c') := by
          rw [HSN.out]
          exact E1.below hb5
        have EH : Hid (RiS V key (.slice a1 lz.length c1) W0 (P.take (j + 1)) u5 (.slice (some ⟨g', 0, none⟩) (j + 1) c')) := E5
        have HH5 : Hid (Has u5 .i64 (some ⟨g5, 0, none⟩) N1 (lvR l (j + 1) N1)) := H5
        have hV5 : V < g5 := by have := E1.v.lt; omega
        clear E1 E2 E3 E5 H5 LV3 T3
        go_wp2
        go_roundw
        case rel => exact ⟨j + 1, .slice (some ⟨g', 0, none⟩) (j + 1) c', g5, 0, c5, by omega, by go_num, by rw [HN1.out], EH.out, by rw [HN1.out]; exact HH5.out, by omega, by simp [Value.ownBlock]; omega⟩
        case measure => simp [intOf]; omega
      · go_simp
        refine hK'.out _ _ hs2 (fun _ => ?_)
        clear hK' K'
        try simp only [Act.put, List.setIfInBounds_toArray, List.set_cons_zero, List.set_cons_succ]
        refine wpAnyH_ready (rs := [1]) (by kernel_rfl) (by simp) ?_
        refine AllReadyH.cons rfl (fun K' hK' => ?_) AllReadyH.nil
        have v0 := (hd2).v.cell 2
        simp at v0
        go_simp
        refine hK'.out _ _ hs2 (fun _ => ?_)
        clear hK' K'
        try simp only [Act.put, List.setIfInBounds_toArray, List.set_cons_zero, List.set_cons_succ]
        refine wpAnyH_ready (rs := [10]) (by kernel_rfl) (by simp) ?_
        refine AllReadyH.cons rfl (fun K' hK' => ?_) AllReadyH.nil
        refine step_app1 rfl _ _ 27 rfl W0.heap.size 2 i0 Tryd.underlying27 hi0 hz0 hz1 hz2 pv j (ps.map (.int .i64)) rfl hd2p X.heap.size 1 y rfl (by simp [go_sem]) (by omega) hd2s ?_
        intro g' c' w3 hown hgrow hnew
        obtain ⟨E1, E2, E3⟩ := hi.appendP hVW (((Below.refl _ X).alloc (Nat.le_refl _) _).drew) (by rw [HPS.out]; exact hown) hgrow
        have hs3 : w3.cell? ⟨lb, loff + m, none⟩ = some (.int .i64 y) := ((Fr.of_grown (M := fun k => pv.ownBlock = some k) hgrow (fun k e => e)).block lb hltc (fun e => hlp e) |> fun e => World.cell?_of_block e).trans hs2
        refine hK'.out _ _ hs3 (fun _ => ?_)
        clear hK' K'
        try simp only [Act.put, List.setIfInBounds_toArray, List.set_cons_zero, List.set_cons_succ]
        have v3 := E3.cell 2
        have v4 := E3.frozen 2
        simp at v3
        refine wpAnyH_ready (rs := [11]) (by kernel_rfl) (by simp) ?_
        refine AllReadyH.cons rfl (fun K' hK' => ?_) AllReadyH.nil
        go_simp
        refine hK'.out _ _ hs3 (fun _ => ?_)
        clear hK' K'
        try simp only [Act.put, List.setIfInBounds_toArray, List.set_cons_zero, List.set_cons_succ]
        refine wpAnyH_ready (rs := [12]) (by kernel_rfl) (by simp) ?_
        refine AllReadyH.cons rfl (fun K' hK' => ?_) AllReadyH.nil
        go_simp
        refine hK'.out _ _ ((World.cell?_setCell_other (h := by first | (simp; omega) | simp) ..).trans hs3) (fun _ => ?_)
        clear hK' K'
        try simp only [Act.put, List.setIfInBounds_toArray, List.set_cons_zero, List.set_cons_succ]
        refine wpAnyH_done (by kernel_rfl) (NoPanic.normal ?_) _
        have LV3 : Has (w3.setCell ⟨V, 2, none⟩ (.slice (some ⟨g', 0, none⟩) (j + 1) c')) .i64 (some ⟨lb, loff, none⟩) (2 * N1) (lvR l j (2 * N1)) := hlv.fr E2 (by rintro (e | e); exact hlV e; exact hlp e)
        have T3 := TH.out _ (BW.out _ E1.fr)
        have hg3 := (E1.prow.lt g' rfl).2
        clear hi hid hd2 hd2p hd2s hs2 hs3 v0 v3 v4 hown hgrow hnew hlv hS0
        go_wp2_with fail
        refine (above7 l j N1 lb loff lc _ T3 LV3 q4 (by omega)).mono ?_
        rintro r u5 ⟨g5, c5, rfl, hg5, H5, hb5⟩
        have E5 : RiS V key (.slice a1 lz.length c1) W0 (P.take (j + 1)) u5 (.slice (some ⟨g', 0, none⟩) (j + 1) c') := by
          rw [HSN.out]
          exact E1.below hb5
        have EH : Hid (RiS V key (.slice a1 lz.length c1) W0 (P.take (j + 1)) u5 (.slice (some ⟨g', 0, none⟩) (j + 1) c')) := E5
        have HH5 : Hid (Has u5 .i64 (some ⟨g5, 0, none⟩) N1 (lvR l (j + 1) N1)) := H5
        have hV5 : V < g5 := by have := E1.v.lt; omega
        clear E1 E2 E3 E5 H5 LV3 T3
        go_wp2
        go_roundw
        case rel => exact ⟨j + 1, .slice (some ⟨g', 0, none⟩) (j + 1) c', g5, 0, c5, by omega, by go_num, by rw [HN1.out], EH.out, by rw [HN1.out]; exact HH5.out, by omega, by simp [Value.ownBlock]; omega⟩
        case measure => simp [intOf]; omega
    · obtain rfl : j = 6 := by omega
      have hE := EN.out
      have v0 := hi.v.cell 0
      have v1 := hi.v.cell 1
      have v2 := hi.v.cell 2
      simp at v0 v1 v2
      have rb := RBY.out _ hi.fr
      have r0 := rb.cell 0
      have r1 := rb.cell 1
      have r2 := rb.cell 2
      have z0 := rb.frozen 0
      have z1 := rb.frozen 1
      have z2 := rb.frozen 2
      simp at r0 r1 r2
      have B6 := BW.out _ hi.fr
      have L6 : Hid (OwnB wr E.heap.size a1 c1 lz) := LRY.out _ hi.fr
      have hpr := hi.prow
      rw [hE] at hpr
      obtain ⟨pa, pc, rfl⟩ := own_row_shape hpr
      have P6 : Hid (OwnI wr W0.heap.size (.slice pa P.length pc) P) := hpr
      have hEW : E.heap.size ≤ W0.heap.size := by omega
      clear hpr hi hlv EN SN PL hps hE rb
      go_wp2
      refine bodyPost_ret (v := .agg #[.int .i64 key, .slice a1 lz.length c1, .slice pa P.length pc]) (by simp [results, Tryd.results44, go_sem, r0, r1, r2]) rfl ⟨a1, c1, pa, pc, by rw [HLZ.out, HPP.out], ?_, ?_, ?_⟩
      · rw [HLZ.out]; exact own_mono (own_set (own_set (own_set L6.out hsz _) hsz _) hsz _) (by omega)
      · rw [HPP.out]; exact own_mono (own_set (own_set (own_set P6.out (by omega) _) (by omega) _) (by omega) _) (by omega)
      · exact ((B6.setCell (Nat.le_refl _) _).setCell (Nat.le_refl _) _).setCell (Nat.le_refl _) _

end Go.Proofs.YtjkehgnelfgoaaaDoor
