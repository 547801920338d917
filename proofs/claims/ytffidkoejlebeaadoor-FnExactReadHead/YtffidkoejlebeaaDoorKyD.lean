/- Plain facts of chapter 8: secrets, public numbers, keys, signatures and what opens them. -/
import Derived.Test.YtffidkoejlebeaaDoorGrowC
import Derived.Test.YtffidkoejlebeaaDoorKyH
import Derived.Test.YtffidkoejlebeaaDoorISums
namespace Go.Proofs.YtffidkoejlebeaaDoor
open Go.ChangeShapes Go.WideShapes Go.ChangeAt Go.RowKit
set_option linter.unusedVariables false
set_option linter.unusedSimpArgs false

/-- A number in two bytes. -/
def twoL (x : Int) : List Int := [x / 256, x % 256]
theorem twoL_wf {x : Int} (h0 : 0 ≤ x) (h1 : x ≤ 65535) : ∀ n ∈ twoL x, (Lit.int .u8 n).wf = true := by
  intro n hn
  simp [twoL] at hn
  exact wf_u8 (by omega) (by omega)
/-- What is summed for a secret, and the secret. -/
def secL (s i b d : Int) : List Int := [3, s / 256, s % 256, i, b, d]
def secV (s i b d : Int) : Int := sumL (secL s i b d)
theorem secV_bd (s i b d : Int) : 0 ≤ secV s i b d ∧ secV s i b d ≤ 65520 := sum_bd _
theorem secL_wf {s i b d : Int} (hs : 0 ≤ s ∧ s ≤ 999) (hi : 0 ≤ i ∧ i ≤ 7) (hb : 0 ≤ b ∧ b ≤ 15) (hd : 0 ≤ d ∧ d ≤ 1) : ∀ n ∈ secL s i b d, (Lit.int .u8 n).wf = true := by
  intro n hn
  simp [secL] at hn
  exact wf_u8 (by omega) (by omega)
/-- The public number of a secret. -/
def opnV (x : Int) : Int := sumL (leafL (twoL x))
theorem opnV_bd (x : Int) : 0 ≤ opnV x ∧ opnV x ≤ 65520 := sum_bd _
theorem flatMap_same {α β : Type} {f g : α → List β} : ∀ {l : List α}, (∀ a ∈ l, f a = g a) → l.flatMap f = l.flatMap g
  | [], _ => rfl
  | a :: r, h => by rw [List.flatMap_cons, List.flatMap_cons, h a (by simp), flatMap_same (fun b hb => h b (by simp [hb]))]
/-- Both public numbers of a bit; those of bits. -/
def prAt (s i : Int) (b : Nat) : List Int := [opnV (secV s i b 0), opnV (secV s i b 1)]
def pubW (s i : Int) (bs : List Nat) : List Int := bs.flatMap (prAt s i)
def pubL (s i : Int) : List Int := pubW s i (List.range 16)
theorem pubW_snoc (s i : Int) (bs : List Nat) (b : Nat) : pubW s i (bs ++ [b]) = pubW s i bs ++ [opnV (secV s i b 0), opnV (secV s i b 1)] := by simp [pubW, prAt]
theorem pubW_succ (s i : Int) (n : Nat) : pubW s i (List.range (n + 1)) = pubW s i (List.range n) ++ [opnV (secV s i n 0), opnV (secV s i n 1)] := by rw [List.range_succ, pubW_snoc]
theorem pubW_len (s i : Int) (bs : List Nat) : (pubW s i bs).length = 2 * bs.length := by
  unfold pubW
  induction bs with
  | nil => rfl
  | cons b r ih => rw [List.flatMap_cons, List.length_append, ih, List.length_cons]; simp [prAt]; omega
theorem pubL_len (s i : Int) : (pubL s i).length = 32 := by unfold pubL; rw [pubW_len]; simp
theorem pubW_all (s i : Int) (bs : List Nat) : allS (pubW s i bs) = true := by
  unfold allS
  rw [List.all_eq_true]
  intro n hn
  simp only [pubW, List.mem_flatMap, prAt] at hn
  obtain ⟨b, _, hb⟩ := hn
  simp at hb
  rcases hb with rfl | rfl
  · simpa using opnV_bd _
  · simpa using opnV_bd _
theorem pubL_all (s i : Int) : allS (pubL s i) = true := pubW_all s i _
theorem pubW_get (s i : Int) : ∀ (n b : Nat), b < n → (pubW s i (List.range n)).getD (2 * b) 0 = opnV (secV s i b 0) ∧ (pubW s i (List.range n)).getD (2 * b + 1) 0 = opnV (secV s i b 1)
  | 0, b, h => by omega
  | n + 1, b, h => by
    have hl : (pubW s i (List.range n)).length = 2 * n := by rw [pubW_len, List.length_range]
    rw [pubW_succ]
    by_cases e : b = n
    · subst e
      simp only [List.getD_eq_getElem?_getD]
      rw [List.getElem?_append_right (by omega), List.getElem?_append_right (by omega), hl]
      simp
    · have := pubW_get s i n b (by omega)
      simp only [List.getD_eq_getElem?_getD] at this ⊢
      rw [List.getElem?_append_left (by omega), List.getElem?_append_left (by omega)]
      exact this
/-- Numbers in two bytes each; what is summed for a key, and its sum. -/
def numB (l : List Int) : List Int := l.flatMap twoL
def keyB (l : List Int) : List Int := 4 :: numB l
def keyS (l : List Int) : Int := sumL (keyB l)
theorem keyS_bd (l : List Int) : 0 ≤ keyS l ∧ keyS l ≤ 65520 := sum_bd _
theorem numB_len (l : List Int) : (numB l).length = 2 * l.length := by
  unfold numB
  induction l with
  | nil => rfl
  | cons b r ih => rw [List.flatMap_cons, List.length_append, ih, List.length_cons]; simp [twoL]; omega
theorem numB_succ (l : List Int) (k : Nat) (h : k < l.length) : numB (l.take (k + 1)) = numB (l.take k) ++ twoL l[k] := by
  unfold numB
  rw [List.take_succ_eq_append_getElem h, List.flatMap_append]
  simp
theorem numB_wf {l : List Int} (h : allS l = true) : ∀ n ∈ numB l, (Lit.int .u8 n).wf = true := by
  intro n hn
  simp only [numB, List.mem_flatMap] at hn
  obtain ⟨x, hx, hn⟩ := hn
  unfold allS at h
  rw [List.all_eq_true] at h
  have := h x hx
  simp at this
  exact twoL_wf this.1 (by omega) n hn
theorem keyB_wf {l : List Int} (h : allS l = true) : ∀ n ∈ keyB l, (Lit.int .u8 n).wf = true := by
  intro n hn
  simp only [keyB, List.mem_cons] at hn
  rcases hn with rfl | hn
  · rfl
  · exact numB_wf h n hn
theorem keyB_len (l : List Int) : (keyB l).length = 2 * l.length + 1 := by simp [keyB, numB_len]
/-- The sums of the first keys. -/
def keysW (s : Int) (is : List Nat) : List Int := is.map fun i : Nat => keyS (pubL s i)
def keysL (s : Int) (n : Nat) : List Int := keysW s (List.range n)
theorem keysL_succ (s : Int) (n : Nat) : keysL s (n + 1) = keysL s n ++ [keyS (pubL s n)] := by unfold keysL keysW; rw [List.range_succ, List.map_append]; rfl
theorem keysL_len (s : Int) (n : Nat) : (keysL s n).length = n := by simp [keysL, keysW]
theorem keysL_all (s : Int) (n : Nat) : allS (keysL s n) = true := by
  unfold allS
  rw [List.all_eq_true]
  intro x hx
  simp only [keysL, keysW, List.mem_map] at hx
  obtain ⟨i, _, rfl⟩ := hx
  simpa using keyS_bd _
theorem keysL_get (s : Int) {n i : Nat} (h : i < n) : (keysL s n).getD i 0 = keyS (pubL s i) := by simp [keysL, keysW, List.getD, h]
/-- The bit b of a number. -/
def bitV (x : Int) (b : Nat) : Int := x / 2 ^ b % 2
theorem bitV_01 (x : Int) (b : Nat) : bitV x b = 0 ∨ bitV x b = 1 := by unfold bitV; omega
/-- What a signature shows, and the others. -/
def shW (s i x : Int) (bs : List Nat) : List Int := bs.map fun b : Nat => secV s i b (bitV x b)
def otW (s i x : Int) (bs : List Nat) : List Int := bs.map fun b : Nat => opnV (secV s i b (1 - bitV x b))
theorem shW_snoc (s i x : Int) (bs : List Nat) (b : Nat) : shW s i x (bs ++ [b]) = shW s i x bs ++ [secV s i b (bitV x b)] := by simp [shW]
theorem otW_snoc (s i x : Int) (bs : List Nat) (b : Nat) : otW s i x (bs ++ [b]) = otW s i x bs ++ [opnV (secV s i b (1 - bitV x b))] := by simp [otW]
theorem shW_len (s i x : Int) (bs : List Nat) : (shW s i x bs).length = bs.length := by simp [shW]
theorem otW_len (s i x : Int) (bs : List Nat) : (otW s i x bs).length = bs.length := by simp [otW]
theorem shW_all (s i x : Int) (bs : List Nat) : allS (shW s i x bs) = true := by
  unfold allS; rw [List.all_eq_true]; intro n hn
  simp only [shW, List.mem_map] at hn
  obtain ⟨b, _, rfl⟩ := hn
  simpa using secV_bd _ _ _ _
theorem otW_all (s i x : Int) (bs : List Nat) : allS (otW s i x bs) = true := by
  unfold allS; rw [List.all_eq_true]; intro n hn
  simp only [otW, List.mem_map] at hn
  obtain ⟨b, _, rfl⟩ := hn
  simpa using opnV_bd _
theorem shW_get (s i x : Int) {n b : Nat} (h : b < n) : (shW s i x (List.range n)).getD b 0 = secV s i b (bitV x b) := by simp [shW, List.getD, h]
theorem otW_get (s i x : Int) {n b : Nat} (h : b < n) : (otW s i x (List.range n)).getD b 0 = opnV (secV s i b (1 - bitV x b)) := by simp [otW, List.getD, h]
/-- What opens: both numbers of a bit, those of bits. -/
def opAt (x : Int) (sh ot : List Int) (b : Nat) : List Int := if bitV x b = 0 then [opnV (sh.getD b 0), ot.getD b 0] else [ot.getD b 0, opnV (sh.getD b 0)]
def opW (x : Int) (sh ot : List Int) (bs : List Nat) : List Int := bs.flatMap (opAt x sh ot)
theorem opAt_len (x : Int) (sh ot : List Int) (b : Nat) : (opAt x sh ot b).length = 2 := by unfold opAt; split <;> rfl
theorem opW_snoc (x : Int) (sh ot : List Int) (bs : List Nat) (b : Nat) : opW x sh ot (bs ++ [b]) = opW x sh ot bs ++ opAt x sh ot b := by simp [opW]
theorem opW_succ (x : Int) (sh ot : List Int) (n : Nat) : opW x sh ot (List.range (n + 1)) = opW x sh ot (List.range n) ++ opAt x sh ot n := by rw [List.range_succ, opW_snoc]
theorem opW_len (x : Int) (sh ot : List Int) (bs : List Nat) : (opW x sh ot bs).length = 2 * bs.length := by
  unfold opW
  induction bs with
  | nil => rfl
  | cons b r ih => rw [List.flatMap_cons, List.length_append, ih, List.length_cons, opAt_len]; omega
theorem getD_all {zs : List Int} (h : allS zs = true) (k : Nat) : 0 ≤ zs.getD k 0 ∧ zs.getD k 0 ≤ 65520 := by
  by_cases hk : k < zs.length
  · have := allS_get h k hk
    simpa [List.getD, hk] using this
  · simp [List.getD, List.getElem?_eq_none (show zs.length ≤ k by omega)]
theorem opW_all {x : Int} {sh ot : List Int} (h : allS ot = true) (bs : List Nat) : allS (opW x sh ot bs) = true := by
  unfold allS; rw [List.all_eq_true]; intro n hn
  simp only [opW, List.mem_flatMap] at hn
  obtain ⟨b, _, hb⟩ := hn
  have h1 := opnV_bd (sh.getD b 0)
  have h2 := getD_all h b
  unfold opAt at hb
  split at hb
  · simp only [List.mem_cons, List.not_mem_nil, or_false] at hb
    rcases hb with rfl | rfl
    · simpa using h1
    · simpa using h2
  · simp only [List.mem_cons, List.not_mem_nil, or_false] at hb
    rcases hb with rfl | rfl
    · simpa using h2
    · simpa using h1
/-- What was signed opens to the public numbers. -/
theorem opW_sign (s i x : Int) : opW x (shW s i x (List.range 16)) (otW s i x (List.range 16)) (List.range 16) = pubL s i := by
  unfold opW pubL pubW
  refine flatMap_same fun b hb => ?_
  have hb' : b < 16 := List.mem_range.1 hb
  unfold opAt prAt
  rw [shW_get s i x hb', otW_get s i x hb']
  rcases bitV_01 x b with h | h
  · rw [if_pos h, h]; simp
  · rw [if_neg (by omega), h]; simp

/-- The codes and the values of the functions. -/
def seOk (s i b d : Int) : Bool := decide ((0 ≤ s ∧ s ≤ 999) ∧ (0 ≤ i ∧ i ≤ 7) ∧ (0 ≤ b ∧ b ≤ 15) ∧ 0 ≤ d ∧ d ≤ 1)
def seC (s i b d : Int) : Int := if seOk s i b d = true then 0 else 3
def seV (s i b d : Int) : Int := if seOk s i b d = true then secV s i b d else 0
def siOk (s i : Int) : Bool := decide ((0 ≤ s ∧ s ≤ 999) ∧ 0 ≤ i ∧ i ≤ 7)
def pkC (s i : Int) : Int := if siOk s i = true then 0 else 3
def pkL (s i : Int) : List Int := if siOk s i = true then pubL s i else []
def kyC (l : List Int) : Int := if l.length = 32 then suF l else 2
def kyV (l : List Int) : Int := if kyC l = 0 then keyS l else 0
def krOk (s n : Int) : Bool := decide ((0 ≤ s ∧ s ≤ 999) ∧ 1 ≤ n ∧ n ≤ 8)
def krC (s n : Int) : Int := if krOk s n = true then 0 else 3
def krV (s n : Int) : Int := if krOk s n = true then rtM nS 11 (keysL s n.toNat) else 0
def ssOk (s i x : Int) : Bool := decide ((0 ≤ s ∧ s ≤ 999) ∧ (0 ≤ i ∧ i ≤ 7) ∧ 0 ≤ x ∧ x ≤ 65520)
def ssC (s i x : Int) : Int := if ssOk s i x = true then 0 else 3
def ssI (s i x : Int) : Int := if ssOk s i x = true then i else 0
def ssS (s i x : Int) : List Int := if ssOk s i x = true then shW s i x (List.range 16) else []
def ssO (s i x : Int) : List Int := if ssOk s i x = true then otW s i x (List.range 16) else []
def opC (i : Int) (sh ot : List Int) (x : Int) : Int := if sgF i sh ot = 0 then (if 0 ≤ x ∧ x ≤ 65520 then 0 else 3) else sgF i sh ot
def opV (i : Int) (sh ot : List Int) (x : Int) : Int := if opC i sh ot x = 0 then keyS (opW x sh ot (List.range 16)) else 0
def ckB (i : Int) (sh ot : List Int) (x n : Int) (p : List Int) (root : Int) : Bool := decide (opC i sh ot x = 0 ∧ clC (opV i sh ot x) i n p = 0 ∧ clV (opV i sh ot x) i n p = root)
theorem kyC_zero {l : List Int} (h : kyC l = 0) : l.length = 32 ∧ allS l = true := by
  unfold kyC suF at h
  split at h
  · rename_i h1
    split at h
    · rename_i h2; exact ⟨h1, h2⟩
    · omega
  · omega
theorem kyC_of {l : List Int} (h1 : l.length = 32) (h2 : allS l = true) : kyC l = 0 := by unfold kyC suF; rw [if_pos h1, if_pos h2]
theorem kyV_of {l : List Int} (h1 : l.length = 32) (h2 : allS l = true) : kyV l = keyS l := by unfold kyV; rw [if_pos (kyC_of h1 h2)]

end Go.Proofs.YtffidkoejlebeaaDoor
