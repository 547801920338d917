/- Contracts of the program's chapter 3: a reader that takes bytes. -/
import Derived.Test.YtngibnmcagogaaaDoorIPack
import Derived.Test.YtngibnmcagogaaaDoorSource
import Derived.Test.YtngibnmcagogaaaDoorRdBase
namespace Go.Proofs.YtngibnmcagogaaaDoor
open Go.ChangeShapes Go.WideShapes Go.ChangeAt Go.RowKit
set_option maxRecDepth 100000
set_option linter.unusedVariables false
set_option linter.unusedSimpArgs false

/-- A reader at block p: what is left of the bytes, how many were used, whether it was cut. -/
structure RdAt (w : World) (B p : Nat) (rs : List Int) (u : Int) (k : Bool) : Prop where
  ex : ∃ b off c, w.cell? ⟨p, 0, none⟩ = some (.slice (some ⟨b, off, none⟩) rs.length c) ∧ rs.length ≤ c ∧ c ≤ maxLen ∧ HasIn B w (some ⟨b, off, none⟩) rs
  c1 : w.cell? ⟨p, 1, none⟩ = some (.int .i64 u)
  c2 : w.cell? ⟨p, 2, none⟩ = some (.bool k)
  f0 : w.frozen? ⟨p, 0, none⟩ = false
  f1 : w.frozen? ⟨p, 1, none⟩ = false
  f2 : w.frozen? ⟨p, 2, none⟩ = false
  base : B ≤ p
  lt : p < w.heap.size
theorem RdAt.below {w w' : World} {B p : Nat} {rs : List Int} {u : Int} {k : Bool} (h : RdAt w B p rs u k) (hb : Below w.heap.size w w') : RdAt w' B p rs u k := by
  obtain ⟨b, off, c, e1, e2, e3, e4⟩ := h.ex
  have := h.base
  have := h.lt
  exact ⟨⟨b, off, c, (hb.cell (p := ⟨p, 0, none⟩) h.lt).trans e1, e2, e3, e4.below (hb.mono (by omega))⟩, (hb.cell (p := ⟨p, 1, none⟩) h.lt).trans h.c1, (hb.cell (p := ⟨p, 2, none⟩) h.lt).trans h.c2, (hb.frozen (p := ⟨p, 0, none⟩) h.lt).trans h.f0, (hb.frozen (p := ⟨p, 1, none⟩) h.lt).trans h.f1, (hb.frozen (p := ⟨p, 2, none⟩) h.lt).trans h.f2, h.base, Nat.lt_of_lt_of_le h.lt hb.size⟩

/-- A copy into a row of one's own, at the run. -/
theorem run_splice {P : Program} (w : World) (dT sT ty elem : TypeId) (hu : P.underlying dT = some (.slice elem)) (hsz : (P.info? elem).map (·.size) = some 1) (dp sp : Option Addr) (dLen dCap sLen sCap : Nat)
    (g off : Nat) (cur : List Value) (t : TypeId) (hg : w.heap[g]? = some (.cells cur.toArray t (0, 0))) (cs : List Value) (hn : cs.length = Nat.min sLen dLen)
    (hpos : 0 < cs.length → dp = some ⟨g, off, none⟩ ∧ ∃ ad, sp = some ad ∧ ∀ (j : Nat) (v : Value), cs[j]? = some v → w.cell? (ad.add j) = some v)
    (hfit : off + cs.length ≤ cur.length) (h1 : ∀ v ∈ cs, v.oneCell' = true) (B : Nat) (w0 : World) (hb : Below B w0 w) (hBg : B ≤ g) :
    ∃ w', (Builtin.copy_ #[dT, sT] ty #[.slice dp dLen dCap, .slice sp sLen sCap]).run P w = .ok (goInt cs.length) w' ∧ w'.heap[g]? = some (.cells (splice cur off cs).toArray t (0, 0)) ∧ Below B w0 w' := by
  by_cases h0 : cs.length = 0
  · obtain rfl : cs = [] := List.eq_nil_of_length_eq_zero h0
    exact ⟨w, run_copy_none (P := P) w dT sT ty elem dp sp dLen dCap sLen sCap hu hsz (by simpa using hn.symm), by simpa [splice] using hg, hb⟩
  · obtain ⟨rfl, ad, rfl, hsrc⟩ := hpos (by omega)
    exact ⟨_, run_copy_row (P := P) w dT sT ty elem g off dLen dCap ad sLen sCap cur.toArray t cs hu hsz hg hn hsrc (by simpa using hfit) h1, by simpa [splice] using setRow_heap w g _ _ t _ hg, below_setRow hb hBg _⟩
theorem RdAt.cut {w : World} {B p : Nat} {rs : List Int} {u : Int} {k : Bool} (h : RdAt w B p rs u k) : RdAt (w.setCell ⟨p, 2, none⟩ (.bool true)) B p rs u true := by
  obtain ⟨⟨b, off, c, e0, ec, ecm, hd⟩, e1, e2, f0, f1, f2, hbs, hlt⟩ := h
  refine ⟨⟨b, off, c, by simp [go_sem, e0], ec, ecm, ?_⟩, by simp [go_sem, e1], by simp [go_sem, e2], by simpa [go_sem] using f0, by simpa [go_sem] using f1, by simpa [go_sem] using f2, hbs, by simpa using hlt⟩
  exact hd.below ((Below.refl _ _).setCell (p := ⟨p, 2, none⟩) hbs _)
theorem RdAt.step {w : World} {B p : Nat} {rs : List Int} {u u' : Int} {k : Bool} (h : RdAt w B p rs u k) (n : Nat) (b' off' : Nat) (c' : Nat) (hc : rs.length - n ≤ c') (hcm : c' ≤ maxLen) (hh : HasIn B w (some ⟨b', off', none⟩) (rs.drop n)) : RdAt ((w.setCell ⟨p, 0, none⟩ (.slice (some ⟨b', off', none⟩) (rs.length - n) c')).setCell ⟨p, 1, none⟩ (.int .i64 u')) B p (rs.drop n) u' k := by
  obtain ⟨⟨b, off, c, e0, ec, ecm, hd⟩, e1, e2, f0, f1, f2, hbs, hlt⟩ := h
  have hl : (rs.drop n).length = rs.length - n := by simp
  refine ⟨⟨b', off', c', by simp [go_sem, e0], by rw [hl]; exact hc, hcm, ?_⟩, by simp [go_sem, e1], by simp [go_sem, e2], by simpa [go_sem] using f0, by simpa [go_sem] using f1, by simpa [go_sem] using f2, hbs, by simpa using hlt⟩
  exact hh.below (((Below.refl _ _).setCell (p := ⟨p, 0, none⟩) hbs _).setCell (p := ⟨p, 1, none⟩) hbs _)

theorem takeHas {w : World} {k : IntKind} {b off : Nat} {zs : List Int} (h : Has w k (some ⟨b, off, none⟩) zs.length zs) (n : Nat) (hn : n ≤ zs.length) : Has w k (some ⟨b, off, none⟩) (zs.take n).length (zs.take n) := by
  have := Has.drop h 0 n (by omega)
  simpa using this
theorem dropIn {B : Nat} {w : World} {b off : Nat} {zs : List Int} (h : HasIn B w (some ⟨b, off, none⟩) zs) (n : Nat) : HasIn B w (some ⟨b, off + n, none⟩) (zs.drop n) := by
  refine ⟨fun x hx => h.1 x (List.mem_of_mem_drop hx), ?_⟩
  by_cases h0 : (zs.drop n).length = 0
  · exact .inl h0
  · simp at h0
    rcases h.2 with c | ⟨b', off', e, hlt, hc⟩
    · omega
    · simp at e
      obtain ⟨rfl, rfl⟩ := e
      refine .inr ⟨b, off + n, rfl, hlt, fun i hi => ?_⟩
      simp at hi
      have := hc (n + i) (by omega)
      rw [show off + n + i = off + (n + i) by omega, this]
      simp [List.getD]
theorem own_setNe {w : World} {e n g g' o c : Nat} {base : Nat} {xs : List Value} (h : w.ownsRow base e 1 (.slice (some ⟨g, 0, none⟩) n c) n xs) (hg : g' ≠ g) (u : Value) : (w.setCell ⟨g', o, none⟩ u).ownsRow base e 1 (.slice (some ⟨g, 0, none⟩) n c) n xs := by
  refine ⟨h.1, h.2.imp id ?_⟩
  rintro ⟨g2, cap, cur, e1, e2, e3, e4⟩
  have : g2 = g := by simp at e1; exact e1.1.symm
  subst this
  exact ⟨g2, cap, cur, e1, e2, (Below.heap_setCell w ⟨g', o, none⟩ u g2 (by show g2 ≠ g'; omega)).trans e3, e4⟩

set_option maxHeartbeats 2000000 in
theorem take_cut (B p n : Nat) (rs : List Int) (u : Int) (k : Bool) (w : World) (h : RdAt w B p rs u k) (hn : n ≤ 255) (hl : rs.length ≤ 1048576) (hc : rs.length < n) :
    Calls Tryd.prog 95 #[.pointer (some ⟨p, 0, none⟩), .int .i64 n] w fun r w' => r = .returned (.slice none 0 0) ∧ RdAt w' B p rs u true ∧ Only p w w' := by
  obtain ⟨i0, hi, hz0, hz1, hz2⟩ := info_parts info8
  have hsz : (Tryd.prog.info? 5).map (·.size) = some 1 := by rw [hi]; simp [hz1]
  have PZ : Hid (_) := made_fill n
  have H := h
  obtain ⟨⟨b, off, c, e0, ec, ecm, hd⟩, e1, e2, f0, f1, f2, hbs, hlt⟩ := h
  have hn0 : (0 : Int) ≤ (n : Int) := by omega
  have hcn : (rs.length : Int) < (n : Int) := by omega
  go_enter Tryd.func95, Tryd.ntmps95
  go_wp2_with (at_make; refine wpList_make_full _ rfl _ _ 22 rfl w.heap.size 5 i0 (.int .u8 0) 1 Tryd.underlying22 hi hz0 hz1 _ _ _ _ n rfl rfl rfl rfl (by rw [hz2]; omega) (by unfold maxLen; omega) (Nat.le_refl _) ?_; intro u2 hown hgrow; rw [PZ.out] at hown; have B2 : Below w.heap.size w u2 := (Below.refl _ _).grown hgrow (Nat.le_refl _) (by intro k hk; cases hk); have z2 := B2.size; have q0 := (B2.cell (p := ⟨p, 0, none⟩) hlt).trans e0; obtain ⟨u3, hcp, H3, B3⟩ := run_splice (P := Tryd.prog) u2 22 22 3 5 Tryd.underlying22 hsz (some ⟨w.heap.size, 0, none⟩) (some ⟨b, off, none⟩) n n rs.length c w.heap.size 0 ((fillP [] n).map (.int .u8)) 5 (own_heap hown) (rs.map (.int .u8)) (by rw [List.length_map]; simp [Nat.min_def]; omega) (fun hp => ⟨rfl, src_of ((hd.below (B2.mono (by omega))).has (by omega)) (by simpa using hp)⟩) (by rw [List.length_map, List.length_map, fillP_len _ _ (by simp)]; omega) (by intro v hv; simp at hv; obtain ⟨m, _, rfl⟩ := hv; rfl) w.heap.size w B2 (Nat.le_refl _); rw [List.length_map] at hcp; have q2 := (B3.cell (p := ⟨p, 2, none⟩) hlt).trans e2; have q2f := (B3.frozen (p := ⟨p, 2, none⟩) hlt).trans f2; have RR := H.below B3; clear hgrow hown H3)
  go_ret
  exact ⟨rfl, RR.cut, (Only.of_below B3).store _⟩

set_option maxHeartbeats 2000000 in
theorem take_ok (B p n : Nat) (rs : List Int) (u : Int) (k : Bool) (w : World) (h : RdAt w B p rs u k) (hn : n ≤ 255) (hl : rs.length ≤ 1048576) (hc : n ≤ rs.length) (u0 : 0 ≤ u) (u1 : u ≤ 1048576) :
    Calls Tryd.prog 95 #[.pointer (some ⟨p, 0, none⟩), .int .i64 n] w fun r w' => r = .returned (.slice (some ⟨w.heap.size, 0, none⟩) n n) ∧ w'.ownsRow w.heap.size 5 1 (.slice (some ⟨w.heap.size, 0, none⟩) n n) n ((rs.take n).map (.int .u8)) ∧ RdAt w' B p (rs.drop n) (u + n) k ∧ Only p w w' := by
  obtain ⟨i0, hi, hz0, hz1, hz2⟩ := info_parts info8
  have hsz : (Tryd.prog.info? 5).map (·.size) = some 1 := by rw [hi]; simp [hz1]
  have PZ : Hid (_) := made_fill n
  have H := h
  obtain ⟨⟨b, off, c, e0, ec, ecm, hd⟩, e1, e2, f0, f1, f2, hbs, hlt⟩ := h
  have hn0 : (0 : Int) ≤ (n : Int) := by omega
  have hcn : (n : Int) ≤ (rs.length : Int) := by omega
  have hcc : (rs.length : Int) ≤ (c : Int) := by omega
  have hnc : (n : Int) ≤ (c : Int) := by omega
  have hnn : ¬ (n : Int) < (n : Int) := by omega
  unfold maxLen at ecm
  obtain ⟨ts, hts⟩ : ∃ ts, ts = rs.take n := ⟨_, rfl⟩
  rw [← hts]
  have hl' : ts.length = n := by rw [hts]; simp; omega
  have HT : Hid (ts = rs.take n) := hts
  clear hts
  by_cases hcn' : c = n
  · have hcn2 := hcn'.symm
    clear hcn'
    subst hcn2
    go_enter Tryd.func95, Tryd.ntmps95
    go_wp2_with (at_make; refine wpList_make_full _ rfl _ _ 22 rfl w.heap.size 5 i0 (.int .u8 0) 1 Tryd.underlying22 hi hz0 hz1 _ _ _ _ n rfl rfl rfl rfl (by rw [hz2]; omega) (by unfold maxLen; omega) (Nat.le_refl _) ?_; intro u2 hown hgrow; rw [PZ.out] at hown; have B2 : Below w.heap.size w u2 := (Below.refl _ _).grown hgrow (Nat.le_refl _) (by intro k hk; cases hk); have z2 := B2.size; have q0 := (B2.cell (p := ⟨p, 0, none⟩) hlt).trans e0; obtain ⟨u3, hcp, H3, B3⟩ := run_splice (P := Tryd.prog) u2 22 22 3 5 Tryd.underlying22 hsz (some ⟨w.heap.size, 0, none⟩) (some ⟨b, off, none⟩) n n rs.length n w.heap.size 0 ((fillP [] n).map (.int .u8)) 5 (own_heap hown) (ts.map (.int .u8)) (by rw [List.length_map, hl']; simp [Nat.min_def]; omega) (fun hp => ⟨rfl, _, rfl, (show Has _ _ _ ts.length ts by rw [HT.out]; exact takeHas ((hd.below (B2.mono (by omega))).has (by omega)) n hc).news⟩) (by rw [List.length_map, List.length_map, fillP_len _ _ (by simp), hl']; omega) (by intro v hv; rw [List.mem_map] at hv; obtain ⟨m, _, rfl⟩ := hv; rfl) w.heap.size w B2 (Nat.le_refl _); rw [List.length_map, hl'] at hcp; have q2 := (B3.cell (p := ⟨p, 0, none⟩) hlt).trans e0; have q2f := (B3.frozen (p := ⟨p, 0, none⟩) hlt).trans f0; have q3 := (B3.cell (p := ⟨p, 1, none⟩) hlt).trans e1; have q3f := (B3.frozen (p := ⟨p, 1, none⟩) hlt).trans f1; have HH3 : Hid (u3.heap[w.heap.size]? = _) := H3; have RR := H.below B3; clear hgrow hown H3)
    go_ret
    have RS := RR.step (u' := u + n) n b off 0 (by omega) (by unfold maxLen; omega) ⟨fun x hx => hd.1 x (List.mem_of_mem_drop hx), .inl (by simp; omega)⟩
    rw [show rs.length - n = 0 by omega] at RS
    refine ⟨rfl, ?_, RS, ((Only.of_below B3).store _).store _⟩
    · refine own_setNe (own_setNe ?_ (by omega) _) (by omega) _
      have e : splice ((fillP [] n).map (Value.int .u8)) 0 (ts.map (.int .u8)) = ts.map (.int .u8) := by
        have := fillP_splice [] ts n (by simp; omega)
        simp only [List.length_nil, List.nil_append] at this
        rw [this, show fillP ts n = ts by have q := fillP_all ts; rwa [hl'] at q]
      rw [e] at HH3
      exact heap_own HH3.out (Nat.le_refl _) (by simp; omega) (by unfold maxLen; omega)
  · skip
    go_enter Tryd.func95, Tryd.ntmps95
    go_wp2_with (at_make; refine wpList_make_full _ rfl _ _ 22 rfl w.heap.size 5 i0 (.int .u8 0) 1 Tryd.underlying22 hi hz0 hz1 _ _ _ _ n rfl rfl rfl rfl (by rw [hz2]; omega) (by unfold maxLen; omega) (Nat.le_refl _) ?_; intro u2 hown hgrow; rw [PZ.out] at hown; have B2 : Below w.heap.size w u2 := (Below.refl _ _).grown hgrow (Nat.le_refl _) (by intro k hk; cases hk); have z2 := B2.size; have q0 := (B2.cell (p := ⟨p, 0, none⟩) hlt).trans e0; obtain ⟨u3, hcp, H3, B3⟩ := run_splice (P := Tryd.prog) u2 22 22 3 5 Tryd.underlying22 hsz (some ⟨w.heap.size, 0, none⟩) (some ⟨b, off, none⟩) n n rs.length c w.heap.size 0 ((fillP [] n).map (.int .u8)) 5 (own_heap hown) (ts.map (.int .u8)) (by rw [List.length_map, hl']; simp [Nat.min_def]; omega) (fun hp => ⟨rfl, _, rfl, (show Has _ _ _ ts.length ts by rw [HT.out]; exact takeHas ((hd.below (B2.mono (by omega))).has (by omega)) n hc).news⟩) (by rw [List.length_map, List.length_map, fillP_len _ _ (by simp), hl']; omega) (by intro v hv; rw [List.mem_map] at hv; obtain ⟨m, _, rfl⟩ := hv; rfl) w.heap.size w B2 (Nat.le_refl _); rw [List.length_map, hl'] at hcp; have q2 := (B3.cell (p := ⟨p, 0, none⟩) hlt).trans e0; have q2f := (B3.frozen (p := ⟨p, 0, none⟩) hlt).trans f0; have q3 := (B3.cell (p := ⟨p, 1, none⟩) hlt).trans e1; have q3f := (B3.frozen (p := ⟨p, 1, none⟩) hlt).trans f1; have HH3 : Hid (u3.heap[w.heap.size]? = _) := H3; have RR := H.below B3; clear hgrow hown H3)
    go_ret
    refine ⟨rfl, ?_, RR.step n _ _ _ (by omega) (by unfold maxLen; omega) ?_, ((Only.of_below B3).store _).store _⟩
    · refine own_setNe (own_setNe ?_ (by omega) _) (by omega) _
      have e : splice ((fillP [] n).map (Value.int .u8)) 0 (ts.map (.int .u8)) = ts.map (.int .u8) := by
        have := fillP_splice [] ts n (by simp; omega)
        simp only [List.length_nil, List.nil_append] at this
        rw [this, show fillP ts n = ts by have q := fillP_all ts; rwa [hl'] at q]
      rw [e] at HH3
      exact heap_own HH3.out (Nat.le_refl _) (by simp; omega) (by unfold maxLen; omega)
    · exact dropIn (hd.below (B3.mono (by omega))) n

end Go.Proofs.YtngibnmcagogaaaDoor
