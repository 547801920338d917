/- An event is read back from its bytes, and there is one way to write it alone: plain facts on lists. -/
import Derived.Test.YtngibnmcagogaaaDoorReadD
namespace Go.Proofs.YtngibnmcagogaaaDoor
open Go.ChangeShapes Go.WideShapes Go.ChangeAt Go.RowKit
set_option maxRecDepth 100000
set_option linter.unusedVariables false
set_option linter.unusedSimpArgs false

theorem put_get (b0 b1 b2 b3 b4 b5 b6 b7 : Int) (h0 : 0 ≤ b0 ∧ b0 ≤ 255) (h1 : 0 ≤ b1 ∧ b1 ≤ 255) (h2 : 0 ≤ b2 ∧ b2 ≤ 255) (h3 : 0 ≤ b3 ∧ b3 ≤ 255) (h4 : 0 ≤ b4 ∧ b4 ≤ 255) (h5 : 0 ≤ b5 ∧ b5 ≤ 255) (h6 : 0 ≤ b6 ∧ b6 ≤ 255) (h7 : 0 ≤ b7 ∧ b7 ≤ 255) :
    putL (wrap64 (((((((b0 * 256 + b1) * 256 + b2) * 256 + b3) * 256 + b4) * 256 + b5) * 256 + b6) * 256 + b7)) 8 = [b0, b1, b2, b3, b4, b5, b6, b7] := by
  unfold putL wrap64
  simp [List.range_succ]
  refine ⟨?_, ?_, ?_, ?_, ?_, ?_, ?_, ?_⟩ <;> omega
theorem get_put (x : Int) (h0 : -9223372036854775808 ≤ x) (h1 : x ≤ 9223372036854775807) : wrap64 (getN (putL x 8) 8) = x := by
  have e : putL x 8 = [x / 72057594037927936 % 256, x / 281474976710656 % 256, x / 1099511627776 % 256, x / 4294967296 % 256, x / 16777216 % 256, x / 65536 % 256, x / 256 % 256, x % 256] := by
    unfold putL
    simp [List.range_succ]
  rw [e]
  simp only [getN, List.getD_cons_zero, List.getD_cons_succ]
  unfold wrap64
  omega
theorem list13 {zs : List Int} (h : 13 ≤ zs.length) : ∃ z0 z1 z2 z3 z4 z5 z6 z7 z8 z9 z10 z11 z12 rest, zs = z0 :: z1 :: z2 :: z3 :: z4 :: z5 :: z6 :: z7 :: z8 :: z9 :: z10 :: z11 :: z12 :: rest := by
  match zs, h with
  | z0 :: z1 :: z2 :: z3 :: z4 :: z5 :: z6 :: z7 :: z8 :: z9 :: z10 :: z11 :: z12 :: rest, _ => exact ⟨z0, z1, z2, z3, z4, z5, z6, z7, z8, z9, z10, z11, z12, rest, rfl⟩
theorem pack_read {zs : List Int} (hw : ∀ x ∈ zs, (Lit.int .u8 x).wf = true) (h : rdLong zs) : packL (zAt zs 0) (rdV zs) (zAt zs 3) (rdX zs) (rdZ zs) = zs.take (13 + rdM zs) := by
  have hZ := rdZ_len h
  have hM := rdM_eq hw
  have bd := fun i => zAt_bd hw i
  obtain ⟨h13, hn⟩ := h
  obtain ⟨z0, z1, z2, z3, z4, z5, z6, z7, z8, z9, z10, z11, z12, rest, rfl⟩ := list13 h13
  have a0 := bd 0
  have a1 := bd 1
  have a2 := bd 2
  have a3 := bd 3
  have a4 := bd 4
  have a5 := bd 5
  have a6 := bd 6
  have a7 := bd 7
  have a8 := bd 8
  have a9 := bd 9
  have a10 := bd 10
  have a11 := bd 11
  clear bd
  simp only [zAt, List.getD_cons_zero, List.getD_cons_succ] at a0 a1 a2 a3 a4 a5 a6 a7 a8 a9 a10 a11 hM
  have eX : rdX (z0 :: z1 :: z2 :: z3 :: z4 :: z5 :: z6 :: z7 :: z8 :: z9 :: z10 :: z11 :: z12 :: rest) = wrap64 (((((((z4 * 256 + z5) * 256 + z6) * 256 + z7) * 256 + z8) * 256 + z9) * 256 + z10) * 256 + z11) := by
    unfold rdX
    simp [getN]
  have eZ : rdZ (z0 :: z1 :: z2 :: z3 :: z4 :: z5 :: z6 :: z7 :: z8 :: z9 :: z10 :: z11 :: z12 :: rest) = rest.take (rdM (z0 :: z1 :: z2 :: z3 :: z4 :: z5 :: z6 :: z7 :: z8 :: z9 :: z10 :: z11 :: z12 :: rest)) := by
    unfold rdZ
    simp
  have eV : rdV (z0 :: z1 :: z2 :: z3 :: z4 :: z5 :: z6 :: z7 :: z8 :: z9 :: z10 :: z11 :: z12 :: rest) = 256 * z1 + z2 := rfl
  unfold packL
  rw [hZ, hM, eX, eZ, eV, put_get z4 z5 z6 z7 z8 z9 z10 z11 a4 a5 a6 a7 a8 a9 a10 a11]
  generalize rdM (z0 :: z1 :: z2 :: z3 :: z4 :: z5 :: z6 :: z7 :: z8 :: z9 :: z10 :: z11 :: z12 :: rest) = m
  have e1 : (256 * z1 + z2) / 256 = z1 := by omega
  have e2 : (256 * z1 + z2) % 256 = z2 := by omega
  rw [e1, e2, show 13 + m = m + 1 + 1 + 1 + 1 + 1 + 1 + 1 + 1 + 1 + 1 + 1 + 1 + 1 by omega]
  simp [zAt]
theorem put8 (x : Int) : ∃ p0 p1 p2 p3 p4 p5 p6 p7, putL x 8 = [p0, p1, p2, p3, p4, p5, p6, p7] := by
  unfold putL
  simp [List.range_succ]
theorem read_pack {s v k x : Int} {zs : List Int} (h : evF s v k x zs.length = 0) (x0 : -9223372036854775808 ≤ x) (x1 : x ≤ 9223372036854775807) :
    rdOk (packL s v k x zs ++ [7]) ∧ zAt (packL s v k x zs ++ [7]) 0 = s ∧ rdV (packL s v k x zs ++ [7]) = v ∧ zAt (packL s v k x zs ++ [7]) 3 = k ∧ rdX (packL s v k x zs ++ [7]) = x ∧ rdZ (packL s v k x zs ++ [7]) = zs ∧ rdM (packL s v k x zs ++ [7]) = zs.length := by
  obtain ⟨hs, hv, hk, hn, _⟩ := evF_zero h
  have hg := get_put x x0 x1
  have hl := packL_len s v k x zs
  obtain ⟨p0, p1, p2, p3, p4, p5, p6, p7, hp⟩ := put8 x
  rw [hp] at hg
  have e : packL s v k x zs ++ [7] = s :: (v / 256) :: (v % 256) :: k :: p0 :: p1 :: p2 :: p3 :: p4 :: p5 :: p6 :: p7 :: (zs.length : Int) :: (zs ++ [7]) := by
    unfold packL
    rw [hp]
    simp
  have hM : rdM (packL s v k x zs ++ [7]) = zs.length := by rw [e]; unfold rdM; simp [zAt]
  have hL : rdLong (packL s v k x zs ++ [7]) := ⟨by simp; omega, by rw [hM]; simp; omega⟩
  have hV : rdV (packL s v k x zs ++ [7]) = v := by
    rw [e]
    unfold rdV
    simp only [zAt, List.getD_cons_zero, List.getD_cons_succ]
    omega
  have hX : rdX (packL s v k x zs ++ [7]) = x := by
    refine Eq.trans ?_ hg
    rw [e]
    unfold rdX
    simp [getN]
  have hS : zAt (packL s v k x zs ++ [7]) 0 = s := by rw [e]; rfl
  have hK : zAt (packL s v k x zs ++ [7]) 3 = k := by rw [e]; rfl
  have hZ : rdZ (packL s v k x zs ++ [7]) = zs := by
    unfold rdZ
    rw [hM, e]
    simp
  refine ⟨⟨hL, ?_⟩, hS, hV, hK, hX, hZ, hM⟩
  rw [hS, hV, hK, hX, hM]
  exact h

end Go.Proofs.YtngibnmcagogaaaDoor
