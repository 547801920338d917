/- Contracts of the program's chapter 2: whether two pieces clash. -/
import Derived.Test.YtklhkhlmhddmcaaDoorToClash
import Derived.Test.YtklhkhlmhddmcaaDoorISums
import Derived.Deep.RegionHeld3
import Derived.Deep.DeepCutAuto
namespace Go.Proofs.YtklhkhlmhddmcaaDoor
open Go.ChangeShapes Go.WideShapes Go.ChangeAt Go.RowKit
set_option maxRecDepth 100000
set_option linter.unusedVariables false
set_option linter.unusedSimpArgs false

theorem bytesEqual_any (a b : Option Addr) (ca cb : Nat) (zs ys : List Int) (w : World) (ha : Has w .u8 a zs.length zs) (hb : Has w .u8 b ys.length ys) :
    Calls Tryd.prog 73 #[.slice a zs.length ca, .slice b ys.length cb] w fun r w' => r = .returned (.bool (decide (zs = ys))) ∧ w' = w := by
  have s1 := ha.str ca
  have s2 := hb.str cb
  have hst := str_beq ha.2.1 hb.2.1
  have HS : Hid (_) := hst
  clear hst
  go_enter Tryd.func73, Tryd.ntmps73
  go_wp2
  go_ret
  exact ⟨ret_bool HS.out, rfl⟩

theorem Has.drew {w : World} {k : IntKind} {a : Option Addr} {len : Nat} {zs : List Int} (h : Has w k a len zs) : Has w.drew k a len zs := h.below (Below.refl _ _).drew (Nat.le_refl _)

theorem bsize {W w1 : World} (hb : Below W.heap.size W w1) : (∀ x : Nat, x < W.heap.size → ¬ x = w1.heap.size) ∧ (∀ x : Nat, x < W.heap.size → ¬ w1.heap.size = x) ∧ (∀ x : Nat, x < W.heap.size → x < w1.heap.size) := by
  have := hb.size
  exact ⟨fun x h => by omega, fun x h => by omega, fun x h => by omega⟩

set_option maxHeartbeats 16000000 in
theorem implIsClash_any (f : Bool) (a b : Option Addr) (ca cb : Nat) (zs ys : List Int) (w : World) (ha : Has w .u8 a zs.length zs) (hb : Has w .u8 b ys.length ys) (hla : zs.length ≤ 2097152) (hlb : ys.length ≤ 2097152) :
    Calls Tryd.prog 24 #[.agg #[.bool f, .slice a zs.length ca, .slice b ys.length cb]] w fun r w' => r = .returned (.bool (isClashB f zs ys)) ∧ Below w.heap.size w w' := by
  have A := ha.alloc (.cells #[.bool f, .slice a zs.length ca, .slice b ys.length cb] 29)
  have B := hb.alloc (.cells #[.bool f, .slice a zs.length ca, .slice b ys.length cb] 29)
  cases f
  · go_enter Tryd.func24, Tryd.ntmps24
    go_wp2
    go_ret
    exact ⟨rfl, (Below.refl _ _).alloc (Nat.le_refl _) _⟩
  · by_cases he : zs = ys
    · have hd : decide (zs = ys) = true := by simpa using he
      have hcl : isClashB true zs ys = false := by unfold isClashB clashB; simp [he]
      rw [hcl]
      clear he hcl
      go_enter Tryd.func24, Tryd.ntmps24
      go_wp2_with (go_at_call 73; refine (bytesEqual_any a b ca cb zs ys _ A B).mono ?_; rintro r u ⟨rfl, rfl⟩; rw [hd])
      go_ret
      exact ⟨rfl, (Below.refl _ _).alloc (Nat.le_refl _) _⟩
    · have hd : decide (zs = ys) = false := by simpa using he
      have hcl : isClashB true zs ys = (decide (sumC zs = 0) && (decide (sumC ys = 0) && decide (sumV zs = sumV ys))) := by
        unfold isClashB clashB sumC sumV
        by_cases h1 : 300 < zs.length
        · have h1' : ¬ zs.length ≤ 300 := by omega
          simp [h1, h1']
        · have h1' : zs.length ≤ 300 := by omega
          by_cases h2 : 300 < ys.length
          · have h2' : ¬ ys.length ≤ 300 := by omega
            simp [h1, h2, h1', h2']
          · have h2' : ys.length ≤ 300 := by omega
            simp [h1, h2, he, h1', h2']
      rw [hcl]
      clear he hcl
      have S1 := fun (w1 : World) (a1 : Has w1 .u8 a zs.length zs) => implSumOf_any a ca zs w1 a1 hla
      have S2 := fun (w1 : World) (a1 : Has w1 .u8 b ys.length ys) => implSumOf_any b cb ys w1 a1 hlb
      generalize sumC zs = c1 at S1 ⊢
      generalize sumC ys = c2 at S2 ⊢
      generalize sumV zs = v1 at S1 ⊢
      generalize sumV ys = v2 at S2 ⊢
      have KS : ∀ wx : World, Below (w.heap.size + 1) (w.alloc (.cells #[.bool true, .slice a zs.length ca, .slice b ys.length cb] 29)) wx → wx.cell? ⟨w.heap.size, 1, none⟩ = some (.slice a zs.length ca) ∧ wx.cell? ⟨w.heap.size, 2, none⟩ = some (.slice b ys.length cb) ∧ w.heap.size + 1 ≤ wx.heap.size ∧ Below (w.heap.size + 1) (w.alloc (.cells #[.bool true, .slice a zs.length ca, .slice b ys.length cb] 29)) wx := by
        intro wx h
        refine ⟨(h.cell (p := ⟨w.heap.size, 1, none⟩) (by simp)).trans (by simp [go_sem]), (h.cell (p := ⟨w.heap.size, 2, none⟩) (by simp)).trans (by simp [go_sem]), ?_, h⟩
        have := h.size
        simpa using this
      have HA : ∀ wx : World, wx.cell? ⟨w.heap.size, 1, none⟩ = some (.slice a zs.length ca) ∧ wx.cell? ⟨w.heap.size, 2, none⟩ = some (.slice b ys.length cb) ∧ w.heap.size + 1 ≤ wx.heap.size ∧ Below (w.heap.size + 1) (w.alloc (.cells #[.bool true, .slice a zs.length ca, .slice b ys.length cb] 29)) wx → Has wx .u8 a zs.length zs := fun wx h => A.below h.2.2.2 (by simp)
      have HB : ∀ wx : World, wx.cell? ⟨w.heap.size, 1, none⟩ = some (.slice a zs.length ca) ∧ wx.cell? ⟨w.heap.size, 2, none⟩ = some (.slice b ys.length cb) ∧ w.heap.size + 1 ≤ wx.heap.size ∧ Below (w.heap.size + 1) (w.alloc (.cells #[.bool true, .slice a zs.length ca, .slice b ys.length cb] 29)) wx → Has wx .u8 b ys.length ys := fun wx h => B.below h.2.2.2 (by simp)
      have KT : ∀ wx wy : World, (wx.cell? ⟨w.heap.size, 1, none⟩ = some (.slice a zs.length ca) ∧ wx.cell? ⟨w.heap.size, 2, none⟩ = some (.slice b ys.length cb) ∧ w.heap.size + 1 ≤ wx.heap.size ∧ Below (w.heap.size + 1) (w.alloc (.cells #[.bool true, .slice a zs.length ca, .slice b ys.length cb] 29)) wx) → Below wx.heap.size wx wy → wy.cell? ⟨w.heap.size, 1, none⟩ = some (.slice a zs.length ca) ∧ wy.cell? ⟨w.heap.size, 2, none⟩ = some (.slice b ys.length cb) ∧ w.heap.size + 1 ≤ wy.heap.size ∧ Below (w.heap.size + 1) (w.alloc (.cells #[.bool true, .slice a zs.length ca, .slice b ys.length cb] 29)) wy := fun wx wy h k => KS wy (h.2.2.2.trans (k.mono h.2.2.1))
      have S1H : Hid (_) := S1
      have S2H : Hid (_) := S2
      have KSH : Hid (_) := KS
      have KTH : Hid (_) := KT
      have HAH : Hid (_) := HA
      have HBH : Hid (_) := HB
      have AH : Hid (_) := A
      have BH : Hid (_) := B
      clear S1 S2 KS KT HA HB A B ha hb hla hlb
      go_enter Tryd.func24, Tryd.ntmps24
      go_upto_region 3 with (go_at_call 73; refine (bytesEqual_any a b ca cb zs ys _ AH.out BH.out).mono ?_; rintro r u ⟨rfl, rfl⟩; rw [hd])
      go_cut [3, 4] (fun s3 s4 wx => ∃ b1 b2 : Nat, s3 = .pointer (some ⟨b1, 0, none⟩) ∧ s4 = .pointer (some ⟨b2, 0, none⟩) ∧ wx.cell? ⟨b1, 0, none⟩ = some (.int .i64 c1) ∧ wx.cell? ⟨b1, 1, none⟩ = some (.int .i64 v1) ∧ wx.cell? ⟨b2, 0, none⟩ = some (.int .i64 c2) ∧ wx.cell? ⟨b2, 1, none⟩ = some (.int .i64 v2) ∧ Below w.heap.size w wx)
      case first =>
        go_region_held3 (fun wx => wx.cell? ⟨w.heap.size, 1, none⟩ = some (.slice a zs.length ca) ∧ wx.cell? ⟨w.heap.size, 2, none⟩ = some (.slice b ys.length cb) ∧ w.heap.size + 1 ≤ wx.heap.size ∧ Below (w.heap.size + 1) (w.alloc (.cells #[.bool true, .slice a zs.length ca, .slice b ys.length cb] 29)) wx)
          ((first | assumption | ((refine KSH.out _ ?_); repeat (first | assumption | exact Below.refl _ _ | exact (And.right (And.right (And.right (by assumption)))) | (refine Below.drew ?_) | (refine Below.alloc ?_ (by (try simp) <;> omega) _) | (refine Below.setCell ?_ (by (try simp) <;> omega) _)))))
          (first | ((go_at_call_of 74 (Value.slice a zs.length ca); refine (S1H.out _ (HAH.out _ (by assumption))).mono ?_; rintro r wa ⟨rfl, hba⟩; have hka := KTH.out _ _ (by assumption) hba; obtain ⟨hca, hfa⟩ := bcell hba; (try (have qa0 : w.heap.size < wa.heap.size := (by (have hh := hba.size); (try simp at hh); omega))); (try (have qa1 : w.heap.size + 1 < wa.heap.size := (by (have hh := hba.size); (try simp at hh); omega))); (try (have qa2 : w.heap.size + 1 + 1 < wa.heap.size := (by (have hh := hba.size); (try simp at hh); omega))))) | ((go_at_call_of 74 (Value.slice b ys.length cb); refine (S2H.out _ (HBH.out _ (by assumption))).mono ?_; rintro r wb ⟨rfl, hbb⟩; have hkb := KTH.out _ _ (by assumption) hbb; obtain ⟨hcb, hfb⟩ := bcell hbb; (try (have qb0 : w.heap.size < wb.heap.size := (by (have hh := hbb.size); (try simp at hh); omega))); (try (have qb1 : w.heap.size + 1 < wb.heap.size := (by (have hh := hbb.size); (try simp at hh); omega))); (try (have qb2 : w.heap.size + 1 + 1 < wb.heap.size := (by (have hh := hbb.size); (try simp at hh); omega))); (try (have qb3 : wa.heap.size < wb.heap.size := (by (have hh := hbb.size); (try simp at hh); omega))); (try (have qb4 : wa.heap.size + 1 < wb.heap.size := (by (have hh := hbb.size); (try simp at hh); omega))); (try (have qc0 : wb.cell? ⟨wa.heap.size, 0, none⟩ = some (.int .i64 0) := (by rw [hcb _ _ (by simp; omega)]; simp [go_sem]))); (try (have qc1 : wb.cell? ⟨wa.heap.size, 1, none⟩ = some (.int .i64 0) := (by rw [hcb _ _ (by simp; omega)]; simp [go_sem]))))))
        all_goals (go_wp2_with fail; go_meet; (refine ⟨_, _, rfl, rfl, (by go_simp), (by go_simp), (by go_simp), (by go_simp), ?_⟩); (have hbase := ((Below.refl w.heap.size w).alloc (Nat.le_refl _) _).trans (hkb.2.2.2.mono (Nat.le_succ _))); repeat (first | exact hbase | (refine Below.alloc ?_ (by (try simp) <;> omega) _) | (refine Below.setCell ?_ (by (try simp) <;> omega) _)))
      case rest =>
        obtain ⟨b1, b2, rfl, rfl, q1, q2, q3, q4, hbw⟩ := hcut
        by_cases k1 : c1 = 0
        · have k1' : (c1 == 0) = true := by simpa using k1
          by_cases k2 : c2 = 0
          · have k2' : (c2 == 0) = true := by simpa using k2
            have K1 : Hid (_) := k1
            have K2 : Hid (_) := k2
            clear k1 k2
            go_wp2
            go_ret
            refine ⟨ret_bool ?_, hbw⟩
            rw [K1.out, K2.out]
            by_cases k3 : v1 = v2 <;> simp [k3]
          · have k2' : (c2 == 0) = false := by simpa using k2
            have K2 : Hid (_) := k2
            clear k1 k2
            go_wp2
            go_ret
            exact ⟨ret_bool (by rw [decide_eq_false K2.out]; simp), hbw⟩
        · have k1' : (c1 == 0) = false := by simpa using k1
          have K1 : Hid (_) := k1
          clear k1
          go_wp2
          go_ret
          exact ⟨ret_bool (by rw [decide_eq_false K1.out]; simp), hbw⟩

end Go.Proofs.YtklhkhlmhddmcaaDoor
