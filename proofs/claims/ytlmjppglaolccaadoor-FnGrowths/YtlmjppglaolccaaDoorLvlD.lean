/- What the rounds over the pairs of a level come to; the marks that loops over an iterator leave; the one beside. -/
import Derived.Test.YtlmjppglaolccaaDoorLvl
namespace Go.Proofs.YtlmjppglaolccaaDoor
open Go.ChangeShapes Go.WideShapes Go.ChangeAt Go.RowKit
set_option linter.unusedVariables false
set_option linter.unusedSimpArgs false

/-- What a pair comes to on the level above. -/
def jP (zs : List Int) (k : Nat) : Int := jn (pA zs k) (pB zs k) (pL zs k)
/-- The one of a pair that stands beside a place. -/
def bsV (zs : List Int) (a : Int) (k : Nat) : Int := if a % 2 = 0 then pB zs k else pA zs k
/-- What a pair gives to the path. -/
def hitP (zs : List Int) (a : Int) (k : Nat) : List Int := if (k : Int) = a / 2 ∧ pL zs k = false then [bsV zs a k] else []
theorem range_jP : ∀ zs : List Int, (List.range ((zs.length + 1) / 2)).map (jP zs) = upL nS zs
  | [] => rfl
  | [a] => by simp [upL, jP, jn, pL, pA, pB]
  | a :: b :: xs => by
    have e : ((a :: b :: xs).length + 1) / 2 = (xs.length + 1) / 2 + 1 := by simp; omega
    rw [e, List.range_succ_eq_map, List.map_cons, List.map_map, upL, ← range_jP xs]
    have e0 : jP (a :: b :: xs) 0 = nS a b := by simp [jP, jn, pL, pA, pB]
    have e1 : List.map (jP (a :: b :: xs) ∘ Nat.succ) (List.range ((xs.length + 1) / 2)) = List.map (jP xs) (List.range ((xs.length + 1) / 2)) := by
      apply List.map_congr_left
      intro k hk
      have h2 : 2 * (k + 1) = 2 * k + 1 + 1 := by omega
      simp only [Function.comp, jP, pA, pB, pL, Nat.succ_eq_add_one, h2, List.length_cons, List.getElem?_cons_succ, show 2 * k + 1 + 1 + 1 = (2 * k + 1) + 1 + 1 by omega, Nat.add_lt_add_iff_right, Nat.add_right_cancel_iff]
    rw [e0, e1]
theorem range_one (N j : Nat) (g : List Int) : (List.range N).flatMap (fun i => if i = j then g else []) = if j < N then g else [] := by
  induction N with
  | zero => simp
  | succ N ih =>
    rw [List.range_succ, List.flatMap_append, ih]
    by_cases h : j < N
    · rw [if_pos h, if_pos (by omega)]
      simp [show ¬ N = j by omega]
    · rw [if_neg h]
      by_cases h2 : N = j
      · subst h2; simp
      · rw [if_neg (by omega)]; simp [h2]
theorem upP_val (zs : List Int) (k : Nat) (h) : (upP zs k h).map (fun x => x.1) = List.range k := by
  unfold upP; rw [List.map_pmap]; simp
theorem upP_map (zs : List Int) (h) : (upP zs ((zs.length + 1) / 2) h).map (fun x => jP zs x.1) = upL nS zs := by
  rw [← range_jP, ← upP_val zs _ h, List.map_map]; rfl
theorem upP_flat (zs : List Int) (k : Nat) (h) (f : Nat → List Int) : (upP zs k h).flatMap (fun x => f x.1) = (List.range k).flatMap f := by
  rw [← upP_val zs k h, List.flatMap_map]
theorem upP_hit (zs : List Int) (a : Int) (h) (h0 : 0 ≤ a) (ha : a < zs.length) : (upP zs ((zs.length + 1) / 2) h).flatMap (fun x => hitP zs a x.1) = if alone a zs.length = true then [] else [bsAt zs a] := by
  rw [upP_flat]
  have e : (hitP zs a) = fun i => if i = (a / 2).toNat then hitP zs a (a / 2).toNat else [] := by
    funext i
    by_cases hi : i = (a / 2).toNat
    · rw [if_pos hi, hi]
    · rw [if_neg hi]; unfold hitP; rw [if_neg (by omega)]
  rw [e, range_one, if_pos (by omega)]
  unfold hitP
  by_cases hal : alone a zs.length = true
  · have hal' : a % 2 = 0 ∧ a = zs.length - 1 := by simpa [alone] using hal
    rw [if_pos hal, if_neg]
    rintro ⟨_, hp⟩
    simp [pL] at hp
    omega
  · have hal' : ¬ (a % 2 = 0 ∧ a = zs.length - 1) := by simpa [alone] using hal
    rw [if_neg hal, if_pos ⟨by omega, by simp [pL]; omega⟩]
    congr 1
    unfold bsV bsAt pA pB
    by_cases hp : a % 2 = 0
    · rw [if_pos hp, if_pos hp, if_pos (by omega), List.getD_eq_getElem?_getD]
      congr 2
      omega
    · rw [if_neg hp, if_neg hp, List.getD_eq_getElem?_getD]
      congr 2
      omega
theorem pA_bd {zs : List Int} (h : allS zs = true) (k : Nat) (hk : 2 * k < zs.length) : 0 ≤ pA zs k ∧ pA zs k ≤ 65520 := by
  have := allS_get h (2 * k) hk
  unfold pA; simpa [hk] using this
theorem pB_bd {zs : List Int} (h : allS zs = true) (k : Nat) (hk : 2 * k < zs.length) : 0 ≤ pB zs k ∧ pB zs k ≤ 65520 := by
  unfold pB
  split
  · rename_i hlt
    have := allS_get h (2 * k + 1) hlt
    simpa [hlt] using this
  · omega
theorem upL_all (f : Int → Int → Int) (hf : ∀ a b, 0 ≤ f a b ∧ f a b ≤ 65520) : ∀ zs : List Int, allS zs = true → allS (upL f zs) = true
  | [], _ => rfl
  | [a], h => h
  | a :: b :: xs, h => by
    have h1 := (allS_cons h).2
    have h2 := (allS_cons h1).2
    have h3 := upL_all f hf xs h2
    have h4 := hf a b
    unfold allS at *
    simp only [upL, List.all_cons, Bool.and_eq_true, decide_eq_true_eq]
    exact ⟨h4, h3⟩

/-- The marks among the deferred calls: each a block that holds no call. -/
def Marked (base : Nat) (W : World) : List Deferred → Prop
  | [] => True
  | d :: ds => ∃ D, d = { target := .collected D, args := #[] } ∧ base ≤ D ∧ W.heap[D]? = some (.deferred (some [])) ∧ (∀ d' ∈ ds, d'.target ≠ .collected D) ∧ Marked base W ds
theorem Marked.at {base : Nat} {W : World} {k : Nat} : ∀ {ds : List Deferred}, Marked base W ds → (∃ d ∈ ds, d.target = .collected k) → base ≤ k ∧ W.heap[k]? = some (.deferred (some []))
  | [], _, ⟨_, h, _⟩ => by cases h
  | d :: ds, ⟨D, hd, hb, hD, _, hr⟩, ⟨d', hd', ht⟩ => by
    rcases List.mem_cons.1 hd' with rfl | h
    · subst hd; simp at ht; subst ht; exact ⟨hb, hD⟩
    · exact Marked.at hr ⟨d', h, ht⟩
theorem Marked.fr {base : Nat} {W W' : World} : ∀ {ds : List Deferred}, Marked base W ds → (∀ k, (∃ d ∈ ds, d.target = .collected k) → W'.heap[k]? = W.heap[k]?) → Marked base W' ds
  | [], _, _ => trivial
  | d :: ds, ⟨D, hd, hb, hD, hn, hr⟩, h => ⟨D, hd, hb, (h D ⟨d, by simp, by rw [hd]⟩).trans hD, hn, Marked.fr hr (fun k ⟨d', h1, h2⟩ => h k ⟨d', by simp [h1], h2⟩)⟩
/-- A frame on its way out takes all its marks. -/
theorem leaves_marks {F : Fence} {n : Nat} {P : Program} {fn : Func} {tmps : Array Value} {R : Ending → World → Prop} {base : Nat} : ∀ (ds : List Deferred) (W : World), Marked base W ds →
    (∀ W', Fr (fun k => ∃ d ∈ ds, d.target = .collected k) W W' → LeavesIn F n P fn tmps R [] .returning W') → LeavesInM F n P fn tmps R ds .returning W
  | [], W, _, h => h W (Fr.refl _ _)
  | d :: ds, W, ⟨D, hd, hb, hD, hn, hr⟩, h => by
    refine ⟨by simp, .inl ⟨D, _, by rw [hd], run_takeDeferred hD, ?_⟩⟩
    have f1 : Fr (fun k => ∃ e ∈ d :: ds, e.target = .collected k) W (W.putObj D (.deferred none)) := Fr.of_grown (grownBy_putObj' W D _) (fun k e => by cases e; exact ⟨d, by simp, by rw [hd]⟩)
    refine leaves_marks ds _ (hr.fr (fun k ⟨d', h1, h2⟩ => World.putObj_heap_other (fun e => hn d' h1 (by rw [h2, e])))) (fun W' f2 => h W' (f1.trans f2 (fun i _ ⟨e, h1, h2⟩ => ⟨e, by simp [h1], h2⟩)))

set_option maxHeartbeats 1000000 in
theorem beside_any (a b t : Int) (al : Bool) (w : World) (h : 0 ≤ t) :
    Calls Tryd.prog 65 #[.agg #[.int .i64 a, .int .i64 b, .bool al], .int .i64 t] w fun r w' => r = .returned (.int .i64 (if t % 2 = 0 then b else a)) ∧ Below w.heap.size w w' := by
  by_cases he : t % 2 = 0
  · have hd : decide (t % 2 = 0) = true := by simpa using he
    rw [if_pos he]
    clear he
    go_enter Tryd.func65, Tryd.ntmps65
    go_wp2_with (go_at_call 74; refine (firstSide_any t _ h).mono ?_; rintro r u ⟨rfl, rfl⟩; rw [hd])
    go_ret
    exact ⟨rfl, by repeat (first | exact Below.refl _ _ | refine Below.alloc ?_ (by simp) _ | refine Below.setCell ?_ (by simp) _)⟩
  · have hd : decide (t % 2 = 0) = false := by simpa using he
    rw [if_neg he]
    clear he
    go_enter Tryd.func65, Tryd.ntmps65
    go_wp2_with (go_at_call 74; refine (firstSide_any t _ h).mono ?_; rintro r u ⟨rfl, rfl⟩; rw [hd])
    go_ret
    exact ⟨rfl, by repeat (first | exact Below.refl _ _ | refine Below.alloc ?_ (by simp) _ | refine Below.setCell ?_ (by simp) _)⟩

end Go.Proofs.YtlmjppglaolccaaDoor
