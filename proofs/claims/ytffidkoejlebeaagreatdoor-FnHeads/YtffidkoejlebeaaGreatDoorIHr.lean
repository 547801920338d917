/- Contract: the program's ReadHead. -/
import Derived.Test.YtffidkoejlebeaaGreatDoorIHt
import Derived.Test.YtffidkoejlebeaaGreatDoorIHq
import Derived.Test.YtffidkoejlebeaaGreatDoorIEvt
namespace Go.Proofs.YtffidkoejlebeaaGreatDoor
open Go.ChangeShapes Go.WideShapes Go.ChangeAt Go.RowKit
set_option maxRecDepth 100000
set_option linter.unusedVariables false
set_option linter.unusedSimpArgs false

def hwD0 (zs : List Int) : Rd := ⟨zs, 0, false⟩
def hwD1 (zs : List Int) : Rd := (hwD0 zs).next 1
def hwD2 (zs : List Int) : Rd := (hwD1 zs).next 1
def hwD3 (zs : List Int) : Rd := (hwD2 zs).next 2
def hwD4 (zs : List Int) : Rd := (hwD3 zs).next 2
theorem hw_rd {zs : List Int} (hw : ∀ n ∈ zs, (Lit.int .u8 n).wf = true) (h : rdB zs = true) : (hwD1 zs).num 1 = rdZ9 zs ∧ (hwD2 zs).num 2 = rdR zs ∧ (hwD3 zs).num 2 = rdM7 zs ∧ (hwD4 zs).num 1 = rdK zs := by
  unfold rdB at h
  simp only [Bool.and_eq_true, decide_eq_true_eq] at h
  obtain ⟨⟨h7, h5⟩, hb⟩ := h
  match zs, h7 with
  | [a, b, c, e, f, g, i], _ =>
    have u : ∀ n ∈ [a, b, c, e, f, g, i], 0 ≤ n ∧ n ≤ 255 := fun n hn => by
      have := range_u8 (zs := [n]) (fun y hy => by simp at hy; subst hy; exact hw _ hn) 0
      simpa using this
    have ub := u b (by simp)
    have uc := u c (by simp)
    have ue := u e (by simp)
    have uf := u f (by simp)
    have ug := u g (by simp)
    have ui := u i (by simp)
    clear hw u h5 hb
    simp [hwD4, hwD3, hwD2, hwD1, hwD0, Rd.next, Rd.num, getN, wrap64, rdZ9, rdR, rdM7, rdK]
    omega
theorem hw_not {zs : List Int} {z r m k : Int} (hb : rdB zs = false) (h : hdB z r m k = true) : hdL z r m k ≠ zs := fun e => by
  have := (rd_pack h).1
  rw [e, hb] at this
  exact Bool.noConfusion this
theorem rd_newH (w : World) (b off cap : Nat) (zs : List Int) (hcap : zs.length ≤ cap) (hcm : cap ≤ maxLen) (hz : Has w .u8 (some ⟨b, off, none⟩) zs.length zs) : RdAt ((w.alloc (.cells #[.int .i64 0, .int .i64 0, .int .i64 0, .int .i64 0, .int .i64 0] 28)).alloc (.cells #[.slice (some ⟨b, off, none⟩) zs.length cap, .int .i64 0, .bool false] 66)) w.heap.size (w.heap.size + 1) zs 0 false := by
  refine ⟨⟨b, off, cap, by simp [go_sem], hcap, hcm, ?_⟩, by simp [go_sem], by simp [go_sem], by simp [go_sem], by simp [go_sem], by simp [go_sem], by omega, by simp⟩
  exact (HasIn.of hz).below (((Below.refl _ _).alloc (Nat.le_refl _) _).alloc (by simp) _)

set_option maxHeartbeats 4000000 in
theorem implReadHead_any (b off cap : Nat) (zs : List Int) (w : World) (hT : Tab w) (hz : Has w .u8 (some ⟨b, off, none⟩) zs.length zs) (hl : zs.length ≤ 1048576) (hcap : zs.length ≤ cap) (hcm : cap ≤ maxLen) :
    Calls Tryz.prog 6 #[.slice (some ⟨b, off, none⟩) zs.length cap] w fun e w' => e = .returned (.agg #[.int .i64 (rdC9 zs), .int .i64 (rdI zs (rdZ9 zs)), .int .i64 (rdI zs (rdR zs)), .int .i64 (rdI zs (rdM7 zs)), .int .i64 (rdI zs (rdK zs))]) ∧ Below w.heap.size w w' := by
  have hwf := hz.2.1
  obtain ⟨B, hB⟩ : ∃ B, B = w.heap.size := ⟨_, rfl⟩
  obtain ⟨E, hE⟩ : ∃ E, E = (w.alloc (.cells #[.int .i64 0, .int .i64 0, .int .i64 0, .int .i64 0, .int .i64 0] 28)).alloc (.cells #[.slice (some ⟨b, off, none⟩) zs.length cap, .int .i64 0, .bool false] 66) := ⟨_, rfl⟩
  have BE : Below w.heap.size w E := by rw [hE]; exact ((Below.refl _ _).alloc (Nat.le_refl _) _).alloc (by simp) _
  have R0 : RdAt E B (B + 1) zs 0 false := by rw [hE, hB]; exact rd_newH w b off cap zs hcap hcm hz
  have SE : Blk E B #[.int .i64 0, .int .i64 0, .int .i64 0, .int .i64 0, .int .i64 0] 28 := by rw [hE, hB]; exact (Blk.new _ _ _).below ((Below.refl _ _).alloc (Nat.le_refl _) _) (Blk.new _ _ _).lt
  have KB : Hid (w.heap.size ≤ B) := by show _ ≤ _; omega
  have EB : Hid (E.heap.size = B + 1 + 1) := by show _ = _; rw [hE, hB]; simp
  have TH : Hid (∀ x : World, RdAt x B (B + 1) zs 0 false → Calls Tryz.prog 33 #[.pointer (some ⟨B + 1, 0, none⟩)] x fun r' w' => r' = .returned (.agg #[.int .i64 ((hwD1 zs).num 1), .int .i64 ((hwD2 zs).num 2), .int .i64 ((hwD3 zs).num 2), .int .i64 ((hwD4 zs).num 1)]) ∧ Only (B + 1) x w') := fun x h => takeHead_any B (B + 1) (hwD0 zs) (hwD1 zs) (hwD2 zs) (hwD3 zs) (hwD4 zs) ((hwD4 zs).next 1) rfl rfl rfl rfl rfl x h hl rfl
  have GOOD := hw_rd (zs := zs) hwf
  generalize (hwD1 zs).num 1 = z at *
  generalize (hwD2 zs).num 2 = r at *
  generalize (hwD3 zs).num 2 = m at *
  generalize (hwD4 zs).num 1 = k at *
  have CASES : Hid ((hdF z r m k = 0 ∧ hdP z r m k = zs ∧ rdC9 zs = 0 ∧ rdI zs (rdZ9 zs) = z ∧ rdI zs (rdR zs) = r ∧ rdI zs (rdM7 zs) = m ∧ rdI zs (rdK zs) = k) ∨ ((hdF z r m k = 0 ∧ hdP z r m k ≠ zs) ∨ hdF z r m k = 3) ∧ rdC9 zs = 5 ∧ rdI zs (rdZ9 zs) = 0 ∧ rdI zs (rdR zs) = 0 ∧ rdI zs (rdM7 zs) = 0 ∧ rdI zs (rdK zs) = 0) := by
    show _ ∨ _
    cases hb : rdB zs with
    | true =>
      obtain ⟨e1, e2, e3, e4⟩ := GOOD hb
      obtain ⟨p1, p2⟩ := pack_rd hb hwf
      rw [← e1, ← e2, ← e3, ← e4] at p1 p2
      refine .inl ⟨by unfold hdF; rw [if_pos p2], by unfold hdP; rw [if_pos p2]; exact p1, by unfold rdC9; rw [if_pos hb], ?_, ?_, ?_, ?_⟩
      all_goals (unfold rdI; rw [if_pos hb])
      · exact e1.symm
      · exact e2.symm
      · exact e3.symm
      · exact e4.symm
    | false =>
      have hnb : ¬ rdB zs = true := by rw [hb]; decide
      have h0 : ∀ v, rdI zs v = 0 := fun v => by unfold rdI; rw [if_neg hnb]
      refine .inr ⟨?_, by unfold rdC9; rw [if_neg hnb], h0 _, h0 _, h0 _, h0 _⟩
      by_cases h : hdB z r m k = true
      · exact .inl ⟨by unfold hdF; rw [if_pos h], by unfold hdP; rw [if_pos h]; exact hw_not hb h⟩
      · exact .inr (by unfold hdF; rw [if_neg h])
  have PH : Hid (∀ u : World, Below w.heap.size w u → Calls Tryz.prog 8 #[.agg #[.int .i64 z, .int .i64 r, .int .i64 m, .int .i64 k]] u fun e w' => ∃ a' c', e = .returned (.agg #[.int .i64 (hdF z r m k), .slice a' (hdP z r m k).length c']) ∧ Has w' .u8 a' (hdP z r m k).length (hdP z r m k) ∧ Below u.heap.size u w') := fun u h => (implPackHead_any z r m k u (hT.below h (Nat.le_refl _))).mono fun e w' ⟨a', c', q1, q2, q3⟩ => ⟨a', c', q1, has_of_own q2 hdP_wf, q3⟩
  have HZ : Hid (∀ u : World, Below w.heap.size w u → Has u .u8 (some ⟨b, off, none⟩) zs.length zs) := fun u h => hz.below h (Nat.le_refl _)
  generalize hdF z r m k = cd at *
  generalize hdP z r m k = ys at *
  generalize rdC9 zs = o0 at *
  generalize rdI zs (rdZ9 zs) = o1 at *
  generalize rdI zs (rdR zs) = o2 at *
  generalize rdI zs (rdM7 zs) = o3 at *
  generalize rdI zs (rdK zs) = o4 at *
  have BD : Hid (True) := trivial
  clear GOOD hwf hT hz hl
  go_enter Tryz.func6, Tryz.ntmps6
  go_wp2_with fail
  simp only [← hB, ← hE]
  clear hB hE
  refine (TH.out _ R0).mono ?_
  rintro e u1 ⟨rfl, Y1⟩
  have z1 := Y1.size
  have S1 : Blk u1 B #[.int .i64 0, .int .i64 0, .int .i64 0, .int .i64 0, .int .i64 0] 28 := (Y1.block B SE.lt (by omega)).trans SE
  have B1 : Below w.heap.size w u1 := BE.trans (Y1.below (by have := KB.out; omega) BE.size)
  obtain ⟨V, hV⟩ : ∃ V, V = u1.heap.size := ⟨_, rfl⟩
  obtain ⟨F, hF⟩ : ∃ F, F = u1.alloc (.cells #[.int .i64 z, .int .i64 r, .int .i64 m, .int .i64 k] 26) := ⟨_, rfl⟩
  have bF : Below u1.heap.size u1 F := by rw [hF]; exact (Below.refl _ _).alloc (Nat.le_refl _) _
  have SV : Blk F V #[.int .i64 z, .int .i64 r, .int .i64 m, .int .i64 k] 26 := by rw [hF, hV]; exact Blk.new _ _ _
  have SF := S1.below bF S1.lt
  have BF := B1.trans (bF.mono B1.size)
  clear R0 SE BE Y1 z1 S1 B1 bF TH EB
  go_wp2_with fail
  simp only [← hV, ← hF]
  clear hV hF
  refine (PH.out _ BF).mono ?_
  rintro e u2 ⟨a', c', rfl, P2, hb2⟩
  have S2 := SF.below hb2 SF.lt
  have V2 := SV.below hb2 SV.lt
  have B2 := BF.trans (hb2.mono BF.size)
  have HZ2 := HZ.out _ B2
  have B2H : Hid (Below w.heap.size w u2) := B2
  have P2H : Hid (Has u2 .u8 a' ys.length ys) := P2
  have HZH : Hid (Has u2 .u8 (some ⟨b, off, none⟩) zs.length zs) := HZ2
  have VH : Hid (Blk u2 V #[.int .i64 z, .int .i64 r, .int .i64 m, .int .i64 k] 26) := V2
  clear hb2 BF SF SV PH HZ P2 HZ2 V2 B2
  rcases CASES.out with ⟨rfl, rfl, rfl, rfl, rfl, rfl, rfl⟩ | ⟨⟨rfl, hne⟩ | rfl, rfl, rfl, rfl, rfl, rfl⟩
  · obtain ⟨G, hG⟩ : ∃ G, G = u2.alloc (.cells #[.int .i64 0, .slice a' ys.length c'] 32) := ⟨_, rfl⟩
    have bG : Below u2.heap.size u2 G := by rw [hG]; exact (Below.refl _ _).alloc (Nat.le_refl _) _
    have EQ := bytesEqual_any a' (some ⟨b, off, none⟩) c' cap ys ys G (P2H.out.below bG (Nat.le_refl _)) (HZH.out.below bG (Nat.le_refl _))
    rw [decide_eq_true rfl] at EQ
    have SG := S2.below bG S2.lt
    have VG := VH.out.below bG VH.out.lt
    have BG : Hid (Below w.heap.size w G) := B2H.out.trans (bG.mono B2H.out.size)
    clear S2 bG P2H HZH VH B2H CASES
    go_wp2_with fail
    simp only [← hG]
    clear hG
    refine EQ.mono ?_
    rintro r' u ⟨rfl, hu⟩; have hu2 := hu.symm; subst hu2; clear hu
    have g0 := SG.cell 0
    have g1 := SG.cell 1
    have g2 := SG.cell 2
    have g3 := SG.cell 3
    have g4 := SG.cell 4
    have f0 := SG.frozen 0
    have f1 := SG.frozen 1
    have f2 := SG.frozen 2
    have f3 := SG.frozen 3
    have f4 := SG.frozen 4
    have g9 := SG.lt
    simp at g0 g1 g2 g3 g4
    have p0 := VG.cell 0
    have p1 := VG.cell 1
    have p2 := VG.cell 2
    have p3 := VG.cell 3
    have p9 := VG.lt
    simp at p0 p1 p2 p3
    clear EQ SG VG
    go_wp2
    refine bodyPost_ret (v := .agg #[.int .i64 0, .int .i64 o1, .int .i64 o2, .int .i64 o3, .int .i64 o4]) (by simp [results, Tryz.results6, go_sem, g0, g1, g2, g3, g4, g9]) rfl ⟨rfl, ?_⟩
    iterate 5 (refine Below.setCell ?_ KB.out _)
    exact BG.out
  · obtain ⟨G, hG⟩ : ∃ G, G = u2.alloc (.cells #[.int .i64 0, .slice a' ys.length c'] 32) := ⟨_, rfl⟩
    have bG : Below u2.heap.size u2 G := by rw [hG]; exact (Below.refl _ _).alloc (Nat.le_refl _) _
    have EQ := bytesEqual_any a' (some ⟨b, off, none⟩) c' cap ys zs G (P2H.out.below bG (Nat.le_refl _)) (HZH.out.below bG (Nat.le_refl _))
    rw [decide_eq_false hne] at EQ
    have SG := S2.below bG S2.lt
    have BG : Hid (Below w.heap.size w G) := B2H.out.trans (bG.mono B2H.out.size)
    clear S2 bG P2H HZH VH B2H CASES hne
    go_wp2_with fail
    simp only [← hG]
    clear hG
    refine EQ.mono ?_
    rintro r' u ⟨rfl, hu⟩; have hu2 := hu.symm; subst hu2; clear hu
    have g0 := SG.cell 0
    have g1 := SG.cell 1
    have g2 := SG.cell 2
    have g3 := SG.cell 3
    have g4 := SG.cell 4
    have f0 := SG.frozen 0
    have f1 := SG.frozen 1
    have f2 := SG.frozen 2
    have f3 := SG.frozen 3
    have f4 := SG.frozen 4
    have g9 := SG.lt
    simp at g0 g1 g2 g3 g4
    clear EQ SG
    go_wp2
    refine bodyPost_ret (v := .agg #[.int .i64 5, .int .i64 0, .int .i64 0, .int .i64 0, .int .i64 0]) (by simp [results, Tryz.results6, go_sem, g0, g1, g2, g3, g4, g9]) rfl ⟨rfl, ?_⟩
    iterate 5 (refine Below.setCell ?_ KB.out _)
    exact BG.out
  · skip
    have g0 := S2.cell 0
    have g1 := S2.cell 1
    have g2 := S2.cell 2
    have g3 := S2.cell 3
    have g4 := S2.cell 4
    have f0 := S2.frozen 0
    have f1 := S2.frozen 1
    have f2 := S2.frozen 2
    have f3 := S2.frozen 3
    have f4 := S2.frozen 4
    have g9 := S2.lt
    simp at g0 g1 g2 g3 g4
    have z2 : w.heap.size ≤ u2.heap.size := B2H.out.size
    clear S2 P2H HZH VH CASES
    go_wp2
    refine bodyPost_ret (v := .agg #[.int .i64 5, .int .i64 0, .int .i64 0, .int .i64 0, .int .i64 0]) (by simp [results, Tryz.results6, go_sem, g0, g1, g2, g3, g4, g9]) rfl ⟨rfl, ?_⟩
    refine Below.alloc ?_ (by simpa using z2) _
    iterate 5 (refine Below.setCell ?_ KB.out _)
    exact B2H.out

end Go.Proofs.YtffidkoejlebeaaGreatDoor
