/- Contracts: the program's nodes of a rise, and its root. -/
import Derived.Test.YtjkehgnelfgoaaaDoorIRi
import Derived.Laws.CopyOwn
namespace Go.Proofs.YtjkehgnelfgoaaaDoor
open Go.ChangeShapes Go.WideShapes Go.ChangeAt Go.RowKit
set_option linter.unusedVariables false
set_option linter.unusedSimpArgs false

/-- The cells of the first j nodes, and nothing yet behind them. -/
def ndA (f : Nat → Int × Int) (j : Nat) : Array Value := ((List.range 6).flatMap fun i => if i < j then [Value.int .i64 (f i).1, .int .i64 (f i).2, .bool false] else [.int .i64 0, .int .i64 0, .bool false]).toArray
theorem nd_set (f : Nat → Int × Int) {j : Nat} (hj : j < 6) : (((ndA f j).setIfInBounds (j * 3) (.int .i64 (f j).1)).setIfInBounds (j * 3 + 1) (.int .i64 (f j).2)).setIfInBounds (j * 3 + 2) (.bool false) = ndA f (j + 1) := by
  have : j = 0 ∨ j = 1 ∨ j = 2 ∨ j = 3 ∨ j = 4 ∨ j = 5 := by omega
  rcases this with rfl | rfl | rfl | rfl | rfl | rfl <;> rfl
theorem nd_new (f : Nat → Int × Int) {j : Nat} (hj : j < 6) : (ndA f j)[j * 3]? = some (.int .i64 0) ∧ (ndA f j)[j * 3 + 1]? = some (.int .i64 0) ∧ (ndA f j)[j * 3 + 2]? = some (.bool false) ∧ (ndA f (j + 1))[j * 3]? = some (.int .i64 (f j).1) ∧ (ndA f (j + 1))[j * 3 + 1]? = some (.int .i64 (f j).2) ∧ (ndA f (j + 1))[j * 3 + 2]? = some (.bool false) := by
  have : j = 0 ∨ j = 1 ∨ j = 2 ∨ j = 3 ∨ j = 4 ∨ j = 5 := by omega
  rcases this with rfl | rfl | rfl | rfl | rfl | rfl <;> exact ⟨rfl, rfl, rfl, rfl, rfl, rfl⟩
theorem nd_zero (f : Nat → Int × Int) : ndA f 0 = #[Value.int .i64 0, Value.int .i64 0, Value.bool false, Value.int .i64 0, Value.int .i64 0, Value.bool false, Value.int .i64 0, Value.int .i64 0, Value.bool false, Value.int .i64 0, Value.int .i64 0, Value.bool false, Value.int .i64 0, Value.int .i64 0, Value.bool false, Value.int .i64 0, Value.int .i64 0, Value.bool false] := rfl
theorem nd_all (f : Nat → Int × Int) : ndA f 6 = #[Value.int .i64 (f 0).1, Value.int .i64 (f 0).2, Value.bool false, Value.int .i64 (f 1).1, Value.int .i64 (f 1).2, Value.bool false, Value.int .i64 (f 2).1, Value.int .i64 (f 2).2, Value.bool false, Value.int .i64 (f 3).1, Value.int .i64 (f 3).2, Value.bool false, Value.int .i64 (f 4).1, Value.int .i64 (f 4).2, Value.bool false, Value.int .i64 (f 5).1, Value.int .i64 (f 5).2, Value.bool false] := rfl
theorem prAB (key leaf : Int) (p : List Int) (i : Nat) : ndQ key leaf p i = (prA (key / 2 ^ i) (mpC key leaf p i) (p.getD i 0), prB (key / 2 ^ i) (mpC key leaf p i) (p.getD i 0)) := by
  unfold ndQ prA prB
  split <;> rfl
theorem fr_cell {M : Nat → Prop} {u Y : World} (hf : Fr M u Y) {a : Addr} {v : Value} (h : u.cell? a = some v) (hn : ¬ M a.block) : Y.cell? a = some v := (World.cell?_of_block (hf.block a.block (World.block_lt_of_cell? u _ h) hn)).trans h
theorem ss_cell {NB : Nat} {u : World} (a b c : Nat) (v0 v1 v2 : Value) {v : Value} {p : Addr} (h : u.cell? p = some v) (hn : p.block ≠ NB) : (((u.setCell ⟨NB, a, none⟩ v0).setCell ⟨NB, b, none⟩ v1).setCell ⟨NB, c, none⟩ v2).cell? p = some v := by
  have h1 := Fr.setCell (M := fun k => k = NB) (Fr.refl _ u) ⟨NB, a, none⟩ v0 rfl
  have h2 := Fr.setCell (M := fun k => k = NB) h1 ⟨NB, b, none⟩ v1 rfl
  have h3 := Fr.setCell (M := fun k => k = NB) h2 ⟨NB, c, none⟩ v2 rfl
  exact fr_cell h3 h hn
theorem ss_blk {NB : Nat} {W0 X w1 : World} {cs : Array Value} {T : Nat} (a b c : Nat) (v0 v1 v2 : Value) (hN : Blk X NB cs T) (hfr : Fr (fun k => k = NB) W0 X) (h : Below X.heap.size X w1) : Blk (((w1.setCell ⟨NB, a, none⟩ v0).setCell ⟨NB, b, none⟩ v1).setCell ⟨NB, c, none⟩ v2) NB (((cs.setIfInBounds a v0).setIfInBounds b v1).setIfInBounds c v2) T ∧ Fr (fun k => k = NB) W0 (((w1.setCell ⟨NB, a, none⟩ v0).setCell ⟨NB, b, none⟩ v1).setCell ⟨NB, c, none⟩ v2) := by
  have hB := hN.below h hN.lt
  have hf : Fr (fun k => k = NB) W0 w1 := hfr.trans (M' := fun _ => False) (.of_below h (Nat.le_refl _)) (fun _ _ e => e.elim)
  have h1 := Fr.setCell (M := fun k => k = NB) hf ⟨NB, a, none⟩ v0 rfl
  have h2 := Fr.setCell (M := fun k => k = NB) h1 ⟨NB, b, none⟩ v1 rfl
  have h3 := Fr.setCell (M := fun k => k = NB) h2 ⟨NB, c, none⟩ v2 rfl
  exact ⟨((hB.set a v0).set b v1).set c v2, h3⟩

set_option maxRecDepth 100000 in
set_option maxHeartbeats 8000000 in
theorem nodes_any (key : Int) (la : Option Addr) (lc : Nat) (zs : List Int) (pb po pc : Nat) (p : List Int) (w : World) (hT : Tab w) (hk : 0 ≤ key ∧ key ≤ 63) (hlf : Has w .u8 la zs.length zs) (hl4 : zs.length ≤ 4) (hp : Has w .i64 (some ⟨pb, po, none⟩) 6 p) (hall : allS p = true) :
    Calls Tryd.prog 83 #[.agg #[.int .i64 key, .slice la zs.length lc, .slice (some ⟨pb, po, none⟩) 6 pc]] w fun r w' => r = .returned (.agg (ndA (ndQ key (sumL zs) p) 6)) ∧ Below w.heap.size w w' := by
  obtain ⟨E, hE⟩ : ∃ E, E = ((w.alloc (.cells #[.int .i64 key, .slice la zs.length lc, .slice (some ⟨pb, po, none⟩) 6 pc] 74)).alloc (.cells #[Value.int .i64 0, Value.int .i64 0, Value.bool false, Value.int .i64 0, Value.int .i64 0, Value.bool false, Value.int .i64 0, Value.int .i64 0, Value.bool false, Value.int .i64 0, Value.int .i64 0, Value.bool false, Value.int .i64 0, Value.int .i64 0, Value.bool false, Value.int .i64 0, Value.int .i64 0, Value.bool false] 116)).alloc (.cells #[Value.int .i64 0, Value.int .i64 0, Value.bool false, Value.int .i64 0, Value.int .i64 0, Value.bool false, Value.int .i64 0, Value.int .i64 0, Value.bool false, Value.int .i64 0, Value.int .i64 0, Value.bool false, Value.int .i64 0, Value.int .i64 0, Value.bool false, Value.int .i64 0, Value.int .i64 0, Value.bool false] 116) := ⟨_, rfl⟩
  have EW : Below w.heap.size w E := by rw [hE]; exact (((Below.refl _ _).alloc (Nat.le_refl _) _).alloc (by simp) _).alloc (by simp; omega) _
  have zE : E.heap.size = w.heap.size + 1 + 1 + 1 := by rw [hE]; simp
  have XE : Blk E w.heap.size #[.int .i64 key, .slice la zs.length lc, .slice (some ⟨pb, po, none⟩) 6 pc] 74 := by
    rw [hE]; exact ((Blk.new w _ 74).below (((Below.refl _ _).alloc (Nat.le_refl _) (.cells #[Value.int .i64 0, Value.int .i64 0, Value.bool false, Value.int .i64 0, Value.int .i64 0, Value.bool false, Value.int .i64 0, Value.int .i64 0, Value.bool false, Value.int .i64 0, Value.int .i64 0, Value.bool false, Value.int .i64 0, Value.int .i64 0, Value.bool false, Value.int .i64 0, Value.int .i64 0, Value.bool false] 116)).alloc (by simp) (.cells #[Value.int .i64 0, Value.int .i64 0, Value.bool false, Value.int .i64 0, Value.int .i64 0, Value.bool false, Value.int .i64 0, Value.int .i64 0, Value.bool false, Value.int .i64 0, Value.int .i64 0, Value.bool false, Value.int .i64 0, Value.int .i64 0, Value.bool false, Value.int .i64 0, Value.int .i64 0, Value.bool false] 116)) (by simp))
  have RE : Blk E (w.heap.size + 1) #[Value.int .i64 0, Value.int .i64 0, Value.bool false, Value.int .i64 0, Value.int .i64 0, Value.bool false, Value.int .i64 0, Value.int .i64 0, Value.bool false, Value.int .i64 0, Value.int .i64 0, Value.bool false, Value.int .i64 0, Value.int .i64 0, Value.bool false, Value.int .i64 0, Value.int .i64 0, Value.bool false] 116 := by
    have := Blk.new (w.alloc (.cells #[.int .i64 key, .slice la zs.length lc, .slice (some ⟨pb, po, none⟩) 6 pc] 74)) #[Value.int .i64 0, Value.int .i64 0, Value.bool false, Value.int .i64 0, Value.int .i64 0, Value.bool false, Value.int .i64 0, Value.int .i64 0, Value.bool false, Value.int .i64 0, Value.int .i64 0, Value.bool false, Value.int .i64 0, Value.int .i64 0, Value.bool false, Value.int .i64 0, Value.int .i64 0, Value.bool false] 116
    rw [World.size_alloc] at this
    rw [hE]; exact this.below ((Below.refl _ _).alloc (Nat.le_refl _) _) (by simp)
  have NE : Blk E (w.heap.size + 2) #[Value.int .i64 0, Value.int .i64 0, Value.bool false, Value.int .i64 0, Value.int .i64 0, Value.bool false, Value.int .i64 0, Value.int .i64 0, Value.bool false, Value.int .i64 0, Value.int .i64 0, Value.bool false, Value.int .i64 0, Value.int .i64 0, Value.bool false, Value.int .i64 0, Value.int .i64 0, Value.bool false] 116 := by
    have := Blk.new ((w.alloc (.cells #[.int .i64 key, .slice la zs.length lc, .slice (some ⟨pb, po, none⟩) 6 pc] 74)).alloc (.cells #[Value.int .i64 0, Value.int .i64 0, Value.bool false, Value.int .i64 0, Value.int .i64 0, Value.bool false, Value.int .i64 0, Value.int .i64 0, Value.bool false, Value.int .i64 0, Value.int .i64 0, Value.bool false, Value.int .i64 0, Value.int .i64 0, Value.bool false, Value.int .i64 0, Value.int .i64 0, Value.bool false] 116)) #[Value.int .i64 0, Value.int .i64 0, Value.bool false, Value.int .i64 0, Value.int .i64 0, Value.bool false, Value.int .i64 0, Value.int .i64 0, Value.bool false, Value.int .i64 0, Value.int .i64 0, Value.bool false, Value.int .i64 0, Value.int .i64 0, Value.bool false, Value.int .i64 0, Value.int .i64 0, Value.bool false] 116
    rw [World.size_alloc, World.size_alloc] at this
    rw [hE]; exact this
  obtain ⟨NB, hNB⟩ : ∃ NB, NB = w.heap.size + 2 := ⟨_, rfl⟩
  rw [← hNB] at NE
  have F1 := fldI7
  have hpb : pb < w.heap.size := by
    rcases hp.2.2 with h0 | ⟨b, o, e, h, _⟩
    · omega
    · simp at e; omega
  have pcell : ∀ j, j < 6 → w.cell? ⟨pb, po + j, none⟩ = some (.int .i64 (p.getD j 0)) := by
    rcases hp.2.2 with h0 | ⟨b, o, e, h, hc⟩
    · omega
    · have e' := e
      simp at e'
      obtain ⟨rfl, rfl⟩ := e'
      exact hc
  have e1 : sumC zs = 0 := by unfold sumC; rw [if_neg (by omega)]
  have e2 : sumV zs = sumL zs := by unfold sumV; rw [if_neg (by omega)]
  have SO : Hid (∀ u : World, Below w.heap.size w u → Calls Tryd.prog 68 #[.slice la zs.length lc] u fun r w' => r = .returned (.agg #[.int .i64 0, .int .i64 (sumL zs)]) ∧ Below u.heap.size u w') := fun u hu => by
    have := implSumOf_any la lc zs u (hlf.below hu (Nat.le_refl _)) (by omega)
    rw [e1, e2] at this
    exact this
  have SB : Hid (0 ≤ sumL zs ∧ sumL zs ≤ 65520) := sum_bd zs
  have AL : Hid (allS p = true) := hall
  clear e1 e2 hall hlf hp
  generalize sumL zs = leaf at *
  have FR : Hid (∀ j, j < 6 → ndQ key leaf p j = (prA (key / 2 ^ j) (mpC key leaf p j) (p.getD j 0), prB (key / 2 ^ j) (mpC key leaf p j) (p.getD j 0)) ∧ mpC key leaf p (j + 1) = nS (ndQ key leaf p j).1 (ndQ key leaf p j).2) := fun j _ => ⟨prAB key leaf p j, ndQ_sum key leaf p j⟩
  have FB : Hid (∀ j, (0 ≤ (ndQ key leaf p j).1 ∧ (ndQ key leaf p j).1 ≤ 65520) ∧ 0 ≤ (ndQ key leaf p j).2 ∧ (ndQ key leaf p j).2 ≤ 65520) := fun j => ndQ_bd key SB.out AL.out j
  have M0 : mpC key leaf p 0 = leaf := rfl
  have N0 := nd_zero (ndQ key leaf p)
  obtain ⟨f, hf⟩ : ∃ f, f = ndQ key leaf p := ⟨_, rfl⟩
  rw [← hf] at FR FB N0 ⊢
  have TH : Hid (∀ u : World, Below w.heap.size w u → Tab u) := fun u hu => hT.below hu (Nat.le_refl _)
  go_enter Tryd.func83, Tryd.ntmps83
  go_wp2_with fail
  simp only [← hE]
  clear hE hf hT
  refine (SO.out _ EW).mono ?_
  rintro r W0 ⟨rfl, hb1⟩
  have z1 := hb1.size
  have B0 : Below w.heap.size w W0 := EW.trans (hb1.mono (by omega))
  have XW : Blk W0 w.heap.size #[.int .i64 key, .slice la zs.length lc, .slice (some ⟨pb, po, none⟩) 6 pc] 74 := XE.below hb1 (by omega)
  have RW : Blk W0 (w.heap.size + 1) #[Value.int .i64 0, Value.int .i64 0, Value.bool false, Value.int .i64 0, Value.int .i64 0, Value.bool false, Value.int .i64 0, Value.int .i64 0, Value.bool false, Value.int .i64 0, Value.int .i64 0, Value.bool false, Value.int .i64 0, Value.int .i64 0, Value.bool false, Value.int .i64 0, Value.int .i64 0, Value.bool false] 116 := RE.below hb1 (by omega)
  have NW : Blk W0 NB (ndA f 0) 116 := by rw [N0]; exact NE.below hb1 (by omega)
  have hNW : NB < W0.heap.size := by omega
  have hX : w.heap.size ≠ NB := by omega
  have hR : w.heap.size + 1 ≠ NB := by omega
  have hP : pb ≠ NB := by omega
  have XY : Hid (∀ Y : World, Fr (fun k => k = NB) W0 Y → (Y.cell? ⟨w.heap.size, 0, none⟩ = some (.int .i64 key) ∧ Y.cell? ⟨w.heap.size, 2, none⟩ = some (.slice (some ⟨pb, po, none⟩) 6 pc)) ∧ (∀ j, j < 6 → Y.cell? ⟨pb, po + j, none⟩ = some (.int .i64 (p.getD j 0))) ∧ Below w.heap.size w Y) := fun Y hf => by
    have hb := XW.fr hf hX
    refine ⟨⟨by have := hb.cell 0; simpa using this, by have := hb.cell 2; simpa using this⟩, fun j hj => ?_, B0.trans (hf.below (B := w.heap.size) (by rintro j e; omega) B0.size)⟩
    exact (World.cell?_of_block (hf.block pb (by have := B0.size; omega) hP)).trans ((B0.cell (p := ⟨pb, po + j, none⟩) hpb).trans (pcell j hj))
  have RY : Hid (∀ Y : World, Fr (fun k => k = NB) W0 Y → Blk Y (w.heap.size + 1) #[Value.int .i64 0, Value.int .i64 0, Value.bool false, Value.int .i64 0, Value.int .i64 0, Value.bool false, Value.int .i64 0, Value.int .i64 0, Value.bool false, Value.int .i64 0, Value.int .i64 0, Value.bool false, Value.int .i64 0, Value.int .i64 0, Value.bool false, Value.int .i64 0, Value.int .i64 0, Value.bool false] 116) := fun Y hf => RW.fr hf hR
  have WN : Hid (w.heap.size + 2 = NB) := hNB.symm
  clear EW zE XE RE NE hNB SO hb1 z1 XW RW N0 pcell hpb B0
  go_wp2_with fail
  try rw [WN.out]
  go_loopw [4, 10] (fun v i wr => ∃ j : Nat, j ≤ 6 ∧ i = .int .i64 j ∧ v = .int .i64 (mpC key leaf p j) ∧ Blk wr NB (ndA f j) 116 ∧ Fr (fun k => k = NB) W0 wr) (fun _ i _ => 6 - (intOf i).toNat)
  case atStart => exact ⟨0, Nat.zero_le _, rfl, by rw [M0], NW, Fr.refl _ _⟩
  case round =>
    clear NW M0
    obtain ⟨j, hj, rfl, rfl, hN, hfr⟩ := hrel
    obtain ⟨⟨x0, x2⟩, xp, xb⟩ := XY.out _ hfr
    by_cases hlt : j < 6
    · have hlt' : (j : Int) < 6 := by omega
      obtain ⟨_, ⟨f3, f4⟩, _, _, _, _⟩ := path_facts hlt hk.1 hk.2
      obtain ⟨hfj, hnx⟩ := FR.out j hlt
      have hbj := FB.out j
      obtain ⟨n0, n1, n2, m0, m1, m2⟩ := nd_new f hlt
      have hset := nd_set f hlt
      have x3 := xp j hlt
      rw [hfj] at hset hnx hbj m0 m1
      simp only at hset hnx hbj m0 m1
      generalize p.getD j 0 = y at *
      obtain ⟨Q, hQ⟩ : ∃ Q, key / 2 ^ j = Q := ⟨_, rfl⟩
      rw [hQ] at f3 f4 hset hnx hbj m0 m1
      generalize mpC key leaf p j = x at *
      have HNX : Hid (mpC key leaf p (j + 1) = nS (prA Q x y) (prB Q x y)) := hnx
      clear hnx hfj FR FB xp
      obtain ⟨X, hXX⟩ : ∃ X, X = wr := ⟨_, rfl⟩
      subst hXX
      have hS0 : X.drew.cell? ⟨w.heap.size, 0, none⟩ = some (.int .i64 key) ∧ X.drew.cell? ⟨w.heap.size, 2, none⟩ = some (.slice (some ⟨pb, po, none⟩) 6 pc) ∧ X.drew.cell? ⟨pb, po + j, none⟩ = some (.int .i64 y) := ⟨x0, x2, x3⟩
      have zX : w.heap.size < X.heap.size ∧ pb < X.heap.size ∧ NB < X.heap.size := ⟨World.block_lt_of_cell? X _ x0, World.block_lt_of_cell? X _ x3, hN.lt⟩
      have KB : Hid (∀ w1 : World, Below X.drew.heap.size X.drew w1 → (w1.cell? ⟨w.heap.size, 0, none⟩ = some (.int .i64 key) ∧ w1.cell? ⟨w.heap.size, 2, none⟩ = some (.slice (some ⟨pb, po, none⟩) 6 pc) ∧ w1.cell? ⟨pb, po + j, none⟩ = some (.int .i64 y)) ∧ Below X.heap.size X w1 ∧ w1.cell? ⟨NB, j * 3, none⟩ = some (.int .i64 0) ∧ w1.cell? ⟨NB, j * 3 + 1, none⟩ = some (.int .i64 0) ∧ w1.cell? ⟨NB, j * 3 + 2, none⟩ = some (.bool false) ∧ w1.frozen? ⟨NB, j * 3, none⟩ = false ∧ w1.frozen? ⟨NB, j * 3 + 1, none⟩ = false ∧ w1.frozen? ⟨NB, j * 3 + 2, none⟩ = false) := fun w1 h => by
        have h0 : Below X.heap.size X w1 := (Below.refl _ X).drew.trans h
        have hB := hN.below h0 zX.2.2
        exact ⟨⟨(h0.cell (p := ⟨w.heap.size, 0, none⟩) zX.1).trans x0, (h0.cell (p := ⟨w.heap.size, 2, none⟩) zX.1).trans x2, (h0.cell (p := ⟨pb, po + j, none⟩) zX.2.1).trans x3⟩, h0, (hB.cell _).trans n0, (hB.cell _).trans n1, (hB.cell _).trans n2, hB.frozen _, hB.frozen _, hB.frozen _⟩
      have SS : Hid (∀ (u : World) (v0 v1 v2 : Value), (u.cell? ⟨w.heap.size, 0, none⟩ = some (.int .i64 key) ∧ u.cell? ⟨w.heap.size, 2, none⟩ = some (.slice (some ⟨pb, po, none⟩) 6 pc) ∧ u.cell? ⟨pb, po + j, none⟩ = some (.int .i64 y)) → ((((u.setCell ⟨NB, j * 3, none⟩ v0).setCell ⟨NB, j * 3 + 1, none⟩ v1).setCell ⟨NB, j * 3 + 2, none⟩ v2).cell? ⟨w.heap.size, 0, none⟩ = some (.int .i64 key) ∧ (((u.setCell ⟨NB, j * 3, none⟩ v0).setCell ⟨NB, j * 3 + 1, none⟩ v1).setCell ⟨NB, j * 3 + 2, none⟩ v2).cell? ⟨w.heap.size, 2, none⟩ = some (.slice (some ⟨pb, po, none⟩) 6 pc) ∧ (((u.setCell ⟨NB, j * 3, none⟩ v0).setCell ⟨NB, j * 3 + 1, none⟩ v1).setCell ⟨NB, j * 3 + 2, none⟩ v2).cell? ⟨pb, po + j, none⟩ = some (.int .i64 y))) := fun u v0 v1 v2 h => ⟨ss_cell _ _ _ _ _ _ h.1 hX, ss_cell _ _ _ _ _ _ h.2.1 hX, ss_cell _ _ _ _ _ _ h.2.2 hP⟩
      have HST : Hid (∀ w1 : World, Below X.heap.size X w1 → Blk (((w1.setCell ⟨NB, j * 3, none⟩ (.int .i64 (prA Q x y))).setCell ⟨NB, j * 3 + 1, none⟩ (.int .i64 (prB Q x y))).setCell ⟨NB, j * 3 + 2, none⟩ (.bool false)) NB (ndA f (j + 1)) 116 ∧ Fr (fun k => k = NB) W0 (((w1.setCell ⟨NB, j * 3, none⟩ (.int .i64 (prA Q x y))).setCell ⟨NB, j * 3 + 1, none⟩ (.int .i64 (prB Q x y))).setCell ⟨NB, j * 3 + 2, none⟩ (.bool false))) := fun w1 h => by
        have := ss_blk (w1 := w1) (j * 3) (j * 3 + 1) (j * 3 + 2) (.int .i64 (prA Q x y)) (.int .i64 (prB Q x y)) (.bool false) hN hfr h
        rw [hset] at this
        exact this
      have m0H : Hid (_) := m0
      have m1H : Hid (_) := m1
      have m2H : Hid (_) := m2
      clear hset n0 n1 n2 m0 m1 m2 hN x0 x2 x3 xb
      go_wp2_with fail
      refine wp_region_noPanic ?_
      refine wp_region_held_drew (S := fun u => u.cell? ⟨w.heap.size, 0, none⟩ = some (.int .i64 key) ∧ u.cell? ⟨w.heap.size, 2, none⟩ = some (.slice (some ⟨pb, po, none⟩) 6 pc) ∧ u.cell? ⟨pb, po + j, none⟩ = some (.int .i64 y)) (by kernel_rfl) hS0 (fun hHeld => ?_)
      refine take_at (i := 0) (d := some 13) (v := ?mv0) rfl rfl (by kernel_rfl) (by kernel_rfl) (by kernel_rfl) (fun _ _ _ h => h) (Or.inl ⟨by rfl, ?my0⟩) (by assumption) ?mg0
      case my0 => (intro z hSz; (try dsimp only at hSz); (try obtain ⟨hz1, hz2, hz3⟩ := hSz); go_simp; (try with_reducible rfl))
      try simp only [Act.put, List.setIfInBounds_toArray, List.set_cons_zero, List.set_cons_succ]
      refine take_at (i := 1) (d := some 14) (v := ?mv1) rfl rfl (by kernel_rfl) (by kernel_rfl) (by kernel_rfl) (fun _ _ _ h => h) (Or.inl ⟨by rfl, ?my1⟩) (by assumption) ?mg1
      case my1 => (intro z hSz; (try dsimp only at hSz); (try obtain ⟨hz1, hz2, hz3⟩ := hSz); go_simp; (try with_reducible rfl))
      try simp only [Act.put, List.setIfInBounds_toArray, List.set_cons_zero, List.set_cons_succ]
      refine take_at (i := 2) (d := some 15) (v := ?mv2) rfl rfl (by kernel_rfl) (by kernel_rfl) (by kernel_rfl) (fun _ _ _ h => h) (Or.inl ⟨by rfl, ?my2⟩) (by assumption) ?mg2
      case my2 => (intro z hSz; (try dsimp only at hSz); (try obtain ⟨hz1, hz2, hz3⟩ := hSz); go_simp; (try with_reducible rfl))
      try simp only [Act.put, List.setIfInBounds_toArray, List.set_cons_zero, List.set_cons_succ]
      refine take_at (i := 3) (d := some 16) (v := ?mv3) rfl rfl (by kernel_rfl) (by kernel_rfl) (by kernel_rfl) (fun _ _ _ h => h) (Or.inl ⟨by rfl, ?my3⟩) (by assumption) ?mg3
      case my3 => (intro z hSz; (try dsimp only at hSz); (try obtain ⟨hz1, hz2, hz3⟩ := hSz); go_simp; (try with_reducible rfl))
      try simp only [Act.put, List.setIfInBounds_toArray, List.set_cons_zero, List.set_cons_succ]
      refine take_at (i := 4) (d := some 17) (v := ?mv4) rfl rfl (by kernel_rfl) (by kernel_rfl) (by kernel_rfl) (fun _ _ _ h => h) (Or.inl ⟨by rfl, ?my4⟩) (by assumption) ?mg4
      case my4 => (intro z hSz; (try dsimp only at hSz); (try obtain ⟨hz1, hz2, hz3⟩ := hSz); go_simp; (try with_reducible rfl))
      try simp only [Act.put, List.setIfInBounds_toArray, List.set_cons_zero, List.set_cons_succ]
      refine take_at (i := 5) (d := some 18) (v := ?mv5) rfl rfl (by kernel_rfl) (by kernel_rfl) (by kernel_rfl) (fun _ _ _ h => h) (Or.inl ⟨by rfl, ?my5⟩) (by assumption) ?mg5
      case my5 => (intro z hSz; (try dsimp only at hSz); (try obtain ⟨hz1, hz2, hz3⟩ := hSz); go_simp; (try with_reducible rfl))
      try simp only [Act.put, List.setIfInBounds_toArray, List.set_cons_zero, List.set_cons_succ]
      refine take_at (i := 6) (d := some 19) (v := ?mv6) rfl rfl (by kernel_rfl) (by kernel_rfl) (by kernel_rfl) (fun _ _ _ h => h) (Or.inl ⟨by rfl, ?my6⟩) (by assumption) ?mg6
      case my6 => (intro z hSz; (try dsimp only at hSz); (try obtain ⟨hz1, hz2, hz3⟩ := hSz); go_simp; (try with_reducible rfl))
      try simp only [Act.put, List.setIfInBounds_toArray, List.set_cons_zero, List.set_cons_succ]
      refine take_at (i := 7) (d := some 20) (v := ?mv7) rfl rfl (by kernel_rfl) (by kernel_rfl) (by kernel_rfl) (fun _ _ _ h => h) (Or.inl ⟨by rfl, ?my7⟩) (by assumption) ?mg7
      case my7 => (intro z hSz; (try dsimp only at hSz); (try obtain ⟨hz1, hz2, hz3⟩ := hSz); go_simp; (try with_reducible rfl))
      try simp only [Act.put, List.setIfInBounds_toArray, List.set_cons_zero, List.set_cons_succ]
      refine take_at (i := 8) (d := some 21) (v := ?mv8) rfl rfl (by kernel_rfl) (by kernel_rfl) (by kernel_rfl) (fun _ _ _ h => h) (Or.inl ⟨by rfl, ?my8⟩) (by assumption) ?mg8
      case my8 => (intro z hSz; (try dsimp only at hSz); (try obtain ⟨hz1, hz2, hz3⟩ := hSz); go_simp; (try with_reducible rfl))
      try simp only [Act.put, List.setIfInBounds_toArray, List.set_cons_zero, List.set_cons_succ]
      refine take_at (i := 9) (d := some 22) (v := ?mv9) rfl rfl (by kernel_rfl) (by kernel_rfl) (by kernel_rfl) (fun _ _ _ h => h) (Or.inl ⟨by rfl, ?my9⟩) (by assumption) ?mg9
      case my9 => (intro z hSz; (try dsimp only at hSz); (try obtain ⟨hz1, hz2, hz3⟩ := hSz); go_simp; (try with_reducible rfl))
      try simp only [Act.put, List.setIfInBounds_toArray, List.set_cons_zero, List.set_cons_succ]
      refine take_at (i := 10) (d := some 23) (v := ?mv10) rfl rfl (by kernel_rfl) (by kernel_rfl) (by kernel_rfl) (fun _ _ _ h => h) (Or.inl ⟨by rfl, ?my10⟩) (by assumption) ?mg10
      case my10 => (intro z hSz; (try dsimp only at hSz); (try obtain ⟨hz1, hz2, hz3⟩ := hSz); go_simp; (try with_reducible rfl))
      try simp only [Act.put, List.setIfInBounds_toArray, List.set_cons_zero, List.set_cons_succ]
      refine wpAnyH_ready (rs := [11]) (by kernel_rfl) (by simp) ?_
      refine AllReadyH.cons rfl (fun K' hK' => ?_) AllReadyH.nil
      go_simp
      refine (pairAt_any Q x y _ f3).mono ?_
      rintro _ w1 ⟨rfl, hc1⟩
      have hb1 := KB.out _ hc1
      obtain ⟨hs1, b1, t0, t1, t2, t3, t4, t5⟩ := hb1
      clear hc1
      refine hK'.out _ _ hs1 (fun _ => ?_)
      clear hK' K'
      try simp only [Act.put, List.setIfInBounds_toArray, List.set_cons_zero, List.set_cons_succ]
      refine wpAnyH_ready (rs := [12]) (by kernel_rfl) (by simp) ?_
      refine AllReadyH.cons rfl (fun K' hK' => ?_) AllReadyH.nil
      go_simp
      refine hK'.out _ _ hs1 (fun _ => ?_)
      clear hK' K'
      try simp only [Act.put, List.setIfInBounds_toArray, List.set_cons_zero, List.set_cons_succ]
      refine wpAnyH_ready (rs := [13]) (by kernel_rfl) (by simp) ?_
      refine AllReadyH.cons rfl (fun K' hK' => ?_) AllReadyH.nil
      go_simp
      refine hK'.out _ _ (SS.out _ _ _ _ hs1) (fun _ => ?_)
      clear hK' K'
      try simp only [Act.put, List.setIfInBounds_toArray, List.set_cons_zero, List.set_cons_succ]
      refine wpAnyH_done (by kernel_rfl) (NoPanic.normal ?_) _
      obtain ⟨Y, hY⟩ : ∃ Y, Y = (((w1.setCell ⟨NB, j * 3, none⟩ (.int .i64 (prA Q x y))).setCell ⟨NB, j * 3 + 1, none⟩ (.int .i64 (prB Q x y))).setCell ⟨NB, j * 3 + 2, none⟩ (.bool false)) := ⟨_, rfl⟩
      obtain ⟨BY, FY⟩ := HST.out w1 b1
      rw [← hY] at BY FY
      rw [← hY]
      clear hY b1 t0 t1 t2 t3 t4 t5 hs1
      have y0 := (BY.cell (j * 3)).trans m0H.out
      have y1 := (BY.cell (j * 3 + 1)).trans m1H.out
      have y2 := (BY.cell (j * 3 + 2)).trans m2H.out
      have TY := TH.out _ (XY.out _ FY).2.2
      go_wp2_with fail
      refine (joined_any (prA Q x y) (prB Q x y) false _ TY hbj.1 (fun _ => hbj.2)).mono ?_
      rintro r u5 ⟨rfl, hb5⟩
      have BY5 := BY.below hb5 BY.lt
      have FY5 : Fr (fun k => k = NB) W0 u5 := FY.trans (M' := fun _ => False) (.of_below hb5 (Nat.le_refl _)) (fun _ _ e => e.elim)
      have BH : Hid (Blk u5 NB (ndA f (j + 1)) 116) := BY5
      clear BY FY BY5 y0 y1 y2 hb5
      go_wp2
      go_roundw
      case rel => exact ⟨j + 1, by omega, by go_num, by rw [HNX.out]; rfl, BH.out, FY5⟩
      case measure => simp [intOf]; omega
    · obtain rfl : j = 6 := by omega
      have hNB : wr.heap[NB]? = some (.cells (ndA f 6) 116 (0, 0)) := hN
      have hRB : wr.heap[w.heap.size + 1]? = some (.cells #[Value.int .i64 0, Value.int .i64 0, Value.bool false, Value.int .i64 0, Value.int .i64 0, Value.bool false, Value.int .i64 0, Value.int .i64 0, Value.bool false, Value.int .i64 0, Value.int .i64 0, Value.bool false, Value.int .i64 0, Value.int .i64 0, Value.bool false, Value.int .i64 0, Value.int .i64 0, Value.bool false] 116 (0, 0)) := RY.out _ hfr
      have BR : Hid (Below w.heap.size w (wr.setRow (w.heap.size + 1) (ndA f 6))) := below_setRow xb (by omega) _
      have HS : Hid ((wr.setRow (w.heap.size + 1) (ndA f 6)).heap[w.heap.size + 1]? = some (.cells (ndA f 6) 116 (0, 0))) := setRow_heap wr (w.heap.size + 1) _ (ndA f 6) 116 (0, 0) hRB
      have hsz : (Tryd.prog.info? 116).map (·.size) = some (ndA f 6).size := by kernel_rfl
      have hal : (ndA f 6).all (·.oneCell') = true := by kernel_rfl
      have hol : (#[Value.int .i64 0, Value.int .i64 0, Value.bool false, Value.int .i64 0, Value.int .i64 0, Value.bool false, Value.int .i64 0, Value.int .i64 0, Value.bool false, Value.int .i64 0, Value.int .i64 0, Value.bool false, Value.int .i64 0, Value.int .i64 0, Value.bool false, Value.int .i64 0, Value.int .i64 0, Value.bool false] : Array Value).size = (ndA f 6).size := rfl
      clear hN hfr FR FB x0 x2 xp xb
      go_wp2_with (first | (refine wpList_load_row rfl 116 _ rfl NB rfl 116 (ndA f 6) (0, 0) _ hNB Tryd.underlying116 rfl hsz ?_) | (refine wpList_store_row rfl 116 _ _ rfl (w.heap.size + 1) (ndA f 6) rfl rfl 116 _ hRB hsz hol hal ?_) | go_in)
      refine bodyPost_ret (v := .agg (ndA f 6)) (results_cell_row Tryd.results83 _ _ (w.heap.size + 1) 116 (ndA f 6) (0, 0) _ rfl HS.out Tryd.underlying116 rfl hsz) rfl ⟨rfl, BR.out⟩

end Go.Proofs.YtjkehgnelfgoaaaDoor
