/-
  Values of sums and products of polynomials; arrays of numbers in memory.
-/
import Derived.Test.YtpoclogglenhnaaFv
import Derived.Laws.MakeOwn
import Derived.Laws.Rows
import Derived.Deep.RegionHeld3
namespace Go.Proofs.Ytpoclogglenhnaa
open Go.RowKit
set_option linter.unusedVariables false
set_option linter.unusedSimpArgs false

theorem region_mid {P : Program} {c : Code} {K : Act → World → Prop} {Q : Exit → Act → World → Prop} {a : Act} {w : World} (F : Act → World → Prop) (hK : ∀ a' w', F a' w' → K a' w')
    (h : c.wp P (fun e a' w' => e = .normal ∧ F a' w') a w) : c.wp P (Exit.then K Q) a w :=
  Code.wp_mono (fun e a' w' h => by obtain ⟨rfl, h⟩ := h; exact hK _ _ h) h

/-- The value of a polynomial whose coefficients are natural numbers. -/
def evN (x : Nat) (l : List Nat) : Nat := evQ x (l.map fun c : Nat => (c : Int))
theorem evN_nil (x : Nat) : evN x [] = 0 := rfl
theorem evN_cons (x c : Nat) (l : List Nat) : evN x (c :: l) = (evN x l * x % 2305843009213688669 + c) % 2305843009213688669 := rfl
theorem evN_lt (x : Nat) (l : List Nat) : evN x l < 2305843009213688669 := evQ_lt _ _

theorem evN_sum (x : Nat) : ∀ (l m : List Nat), l.length = m.length → evN x (List.zipWith (fun a b => (a + b) % 2305843009213688669) l m) = (evN x l + evN x m) % 2305843009213688669 := by
  intro l
  induction l with
  | nil => intro m h; cases m with
    | nil => rfl
    | cons _ _ => cases h
  | cons a l ih => intro m h; cases m with
    | nil => cases h
    | cons b m =>
      have h' : l.length = m.length := by simpa using h
      rw [List.zipWith_cons_cons, evN_cons, evN_cons, evN_cons, ih m h']
      have e1 : (evN x l + evN x m) % 2305843009213688669 * x % 2305843009213688669 = (evN x l * x + evN x m * x) % 2305843009213688669 := by rw [Nat.mod_mul_mod, Nat.add_mul]
      rw [e1]
      generalize evN x l * x = A
      generalize evN x m * x = B
      omega

/-- The coefficients of the product with x + m, prev being carried on. -/
def prodP (m : Nat) : Nat → List Nat → List Nat
  | prev, [] => [prev]
  | prev, p :: ps => ((prev + m * p % 2305843009213688669) % 2305843009213688669) :: prodP m p ps
theorem prodP_len (m : Nat) : ∀ (ps : List Nat) (prev : Nat), (prodP m prev ps).length = ps.length + 1 := by
  intro ps
  induction ps with
  | nil => intro _; rfl
  | cons p ps ih => intro _; simp [prodP, ih]
theorem prodP_get (m : Nat) : ∀ (ps : List Nat) (prev i : Nat), i ≤ ps.length → (prodP m prev ps).getD i 0 = if i < ps.length then ((if i = 0 then prev else ps.getD (i - 1) 0) + m * ps.getD i 0 % 2305843009213688669) % 2305843009213688669 else (if i = 0 then prev else ps.getD (i - 1) 0) := by
  intro ps
  induction ps with
  | nil => intro prev i hi; obtain rfl : i = 0 := by simpa using hi
           simp [prodP]
  | cons p ps ih =>
    intro prev i hi
    cases i with
    | zero => simp [prodP]
    | succ i =>
      have h := ih p i (by simpa using hi)
      simp only [prodP, List.getD_cons_succ, List.length_cons, Nat.succ_lt_succ_iff, Nat.add_eq_zero_iff, Nat.succ_ne_zero, and_false, if_false, Nat.add_sub_cancel]
      rw [h]
      cases i with
      | zero => simp
      | succ i => simp
theorem evN_prod (x m : Nat) : ∀ (ps : List Nat) (prev : Nat), prev < 2305843009213688669 → (∀ p ∈ ps, p < 2305843009213688669) → evN x (prodP m prev ps) = (prev + (x + m) * evN x ps) % 2305843009213688669 := by
  intro ps
  induction ps with
  | nil => intro prev hp _; rw [prodP, evN_cons, evN_nil]; simp
  | cons p ps ih =>
    intro prev hp hps
    rw [prodP, evN_cons, ih p (hps p (by simp)) (fun q hq => hps q (by simp [hq])), evN_cons]
    have e1 : (p + (x + m) * evN x ps) % 2305843009213688669 * x % 2305843009213688669 = (p * x + (x + m) * (evN x ps * x)) % 2305843009213688669 := by
      rw [Nat.mod_mul_mod, Nat.add_mul, Nat.mul_assoc]
    have e2 : (x + m) * ((evN x ps * x % 2305843009213688669 + p) % 2305843009213688669) % 2305843009213688669 = ((x + m) * (evN x ps * x) + (x + m) * p) % 2305843009213688669 := by
      rw [Nat.mul_mod_mod, Nat.mul_add, Nat.add_mod, Nat.mul_mod_mod, ← Nat.add_mod]
    have e3 : (prev + m * p % 2305843009213688669) % 2305843009213688669 = (prev + m * p) % 2305843009213688669 := by rw [Nat.add_mod_mod]
    have e4 : (x + m) * p = p * x + m * p := by rw [Nat.add_mul, Nat.mul_comm x p]
    rw [e1, e3, ← Nat.add_mod, Nat.add_mod prev ((x + m) * _), e2, ← Nat.add_mod, e4]
    congr 1
    generalize (x + m) * (evN x ps * x) = A
    omega
theorem evN_mul (x m : Nat) (ps : List Nat) (hps : ∀ p ∈ ps, p < 2305843009213688669) : evN x (prodP m 0 ps) = evN x ps * ((x + m) % 2305843009213688669) % 2305843009213688669 := by
  rw [evN_prod x m ps 0 (by decide) hps, Nat.zero_add, Nat.mul_mod_mod, Nat.mul_comm]
theorem minus_root (r : Nat) (hr : r < 2305843009213688669) : (r + dif 0 r) % 2305843009213688669 = 0 := by unfold dif; omega

/-- An array of numbers. -/
def iv (l : List Nat) : Array Value := (l.map fun x : Nat => Value.int .i64 (x : Int)).toArray
/-- Block g is just the numbers l. -/
def IB (w : World) (g : Nat) (l : List Nat) : Prop := w.heap[g]? = some (.cells (iv l) 3 (0, 0))
theorem iv_size (l : List Nat) : (iv l).size = l.length := by simp [iv]
theorem iv_get (l : List Nat) (i : Nat) (h : i < l.length) : (iv l)[i]? = some (.int .i64 (l[i] : Nat)) := by simp [iv, h]
theorem iv_set (l : List Nat) (i x : Nat) : (iv l).setIfInBounds i (.int .i64 (x : Nat)) = iv (l.set i x) := by
  apply Array.ext'
  simp [iv, List.map_set]
theorem IB.lt {w : World} {g : Nat} {l : List Nat} (h : IB w g l) : g < w.heap.size := by
  rcases Nat.lt_or_ge g w.heap.size with hlt | hge
  · exact hlt
  · unfold IB at h; rw [Array.getElem?_eq_none hge] at h; cases h
theorem IB.cell {w : World} {g : Nat} {l : List Nat} (h : IB w g l) (i : Nat) (hi : i < l.length) : w.cell? ⟨g, i, none⟩ = some (.int .i64 (l.getD i 0 : Nat)) := by
  rw [cell_of_row w g i _ 3 (0, 0) h, iv_get l i hi]; simp [hi]
theorem IB.frozen {w : World} {g : Nat} {l : List Nat} (h : IB w g l) (i : Nat) : w.frozen? ⟨g, i, none⟩ = false := frozen_of_row w g i _ 3 h
theorem IB.set_ {w : World} {g : Nat} {l : List Nat} (h : IB w g l) (i x : Nat) : IB (w.setCell ⟨g, i, none⟩ (.int .i64 (x : Nat))) g (l.set i x) := by
  unfold IB; rw [heap_setCell_same w g i _ 3 _ h, iv_set]
theorem IB.other {w : World} {g g' : Nat} {l : List Nat} (h : IB w g l) (hne : g ≠ g') (i : Nat) (v : Value) : IB (w.setCell ⟨g', i, none⟩ v) g l :=
  (Below.heap_setCell w ⟨g', i, none⟩ v g hne).trans h
theorem IB.below {B : Nat} {w w' : World} {g : Nat} {l : List Nat} (h : IB w g l) (hb : Below B w w') (hg : g < B) : IB w' g l := (hb.block g hg).trans h
theorem IB.keep {w w' : World} {g : Nat} {l : List Nat} (h : IB w g l) (hb : Below w.heap.size w w') : IB w' g l := h.below hb h.lt
theorem IB.rd {w : World} {g : Nat} {l : List Nat} (h : IB w g l) (hl : l.length ≤ maxLen) : RdI w (some ⟨g, 0, none⟩) (l.map fun c : Nat => (c : Int)) := by
  refine ⟨by simpa using hl, .inr ⟨_, rfl, fun j hj => ?_⟩⟩
  have hj' : j < l.length := by simpa using hj
  have := h.cell j hj'
  simp only [List.getElem_map]
  have e : l.getD j 0 = l[j] := by simp [hj']
  rw [e] at this
  have e2 : (⟨g, 0, none⟩ : Addr).add j = ⟨g, j, none⟩ := by
    simp [Addr.add]; rintro rfl; rfl
  rw [e2]; exact this

/-- The first k of the values f, in a list of n. -/
def upF (n k : Nat) (f : Nat → Nat) : List Nat := (List.range n).map fun i => if i < k then f i else 0
theorem upF_len (n k : Nat) (f : Nat → Nat) : (upF n k f).length = n := by simp [upF]
theorem upF_get (n k i : Nat) (f : Nat → Nat) (h : i < n) : (upF n k f).getD i 0 = if i < k then f i else 0 := by simp [upF, h]
theorem getD_ext {l m : List Nat} (hl : l.length = m.length) (h : ∀ i, i < l.length → l.getD i 0 = m.getD i 0) : l = m := by
  apply List.ext_getElem hl
  intro i h1 h2
  have := h i h1
  simpa [h1, h2] using this
theorem getD_set (l : List Nat) (i j x : Nat) (hi : i < l.length) (hj : j < l.length) : (l.set i x).getD j 0 = if i = j then x else l.getD j 0 := by
  simp [List.getElem_set, hj]
theorem upF_set (n k : Nat) (f : Nat → Nat) (hk : k < n) (x : Nat) (hx : x = f k) : (upF n k f).set k x = upF n (k + 1) f := by
  subst hx
  apply getD_ext (by simp [upF])
  intro i hi
  rw [List.length_set, upF_len] at hi
  rw [getD_set _ _ _ _ (by rw [upF_len]; exact hk) (by rw [upF_len]; exact hi), upF_get _ _ _ _ hi, upF_get _ _ _ _ hi]
  by_cases e : k = i
  · subst e; rw [if_pos rfl, if_pos (by omega)]
  · rw [if_neg e]
    by_cases h : i < k
    · rw [if_pos h, if_pos (by omega)]
    · rw [if_neg h, if_neg (by omega)]
theorem upF_skip (n k : Nat) (f : Nat → Nat) (h0 : f k = 0) : upF n k f = upF n (k + 1) f := by
  apply getD_ext (by simp [upF])
  intro i hi
  rw [upF_len] at hi
  rw [upF_get _ _ _ _ hi, upF_get _ _ _ _ hi]
  by_cases e : i = k
  · subst e; rw [if_neg (by omega), if_pos (by omega), h0]
  · by_cases h : i < k
    · rw [if_pos h, if_pos (by omega)]
    · rw [if_neg h, if_neg (by omega)]

/-- What is carried to place i. -/
def prevF (f : Nat → Nat) (i : Nat) : Nat := if i = 0 then 0 else f (i - 1)
/-- The product's coefficients behind k rounds. -/
def prF (m n k : Nat) (f : Nat → Nat) : List Nat := (List.range (n + 1)).map fun i => if i < k then (prevF f i + m * f i % 2305843009213688669) % 2305843009213688669 else if i = k then prevF f k else 0
theorem prF_len (m n k : Nat) (f : Nat → Nat) : (prF m n k f).length = n + 1 := by simp [prF]
theorem prF_get (m n k i : Nat) (f : Nat → Nat) (h : i < n + 1) : (prF m n k f).getD i 0 = if i < k then (prevF f i + m * f i % 2305843009213688669) % 2305843009213688669 else if i = k then prevF f k else 0 := by simp [prF, h]
theorem prF_zero (m n : Nat) (f : Nat → Nat) : prF m n 0 f = List.replicate (n + 1) 0 := by
  apply getD_ext (by simp [prF])
  intro i hi
  rw [prF_len] at hi
  rw [prF_get _ _ _ _ _ hi]
  by_cases h : i = 0
  · subst h; simp [prevF]
  · simp [h, hi]
theorem prF_step (m n k : Nat) (f : Nat → Nat) (hk : k < n) : ((prF m n k f).set k ((prevF f k + m * f k % 2305843009213688669) % 2305843009213688669)).set (k + 1) (f k) = prF m n (k + 1) f := by
  apply getD_ext (by simp [prF])
  intro i hi
  simp only [List.length_set, prF_len] at hi
  rw [getD_set _ _ _ _ (by rw [List.length_set, prF_len]; omega) (by rw [List.length_set, prF_len]; exact hi), getD_set _ _ _ _ (by rw [prF_len]; omega) (by rw [prF_len]; exact hi), prF_get _ _ _ _ _ hi, prF_get _ _ _ _ _ hi]
  by_cases e : k + 1 = i
  · subst e; rw [if_pos rfl, if_neg (by omega), if_pos rfl]; simp [prevF]
  · rw [if_neg e]
    by_cases e2 : k = i
    · subst e2; rw [if_pos rfl, if_pos (by omega)]
    · rw [if_neg e2]
      by_cases h : i < k
      · rw [if_pos h, if_pos (by omega)]
      · rw [if_neg h, if_neg (by omega), if_neg (by omega), if_neg (by omega)]
theorem prF_full (m n : Nat) (f : Nat → Nat) : prF m n n f = prodP m 0 (upF n n f) := by
  apply getD_ext (by rw [prF_len, prodP_len, upF_len])
  intro i hi
  rw [prF_len] at hi
  rw [prF_get _ _ _ _ _ hi, prodP_get _ _ _ _ (by rw [upF_len]; omega), upF_len]
  by_cases h : i < n
  · rw [if_pos h, if_pos h, upF_get _ _ _ _ h, if_pos h]
    unfold prevF
    by_cases h0 : i = 0
    · rw [if_pos h0, if_pos h0]
    · rw [if_neg h0, if_neg h0, upF_get _ _ _ _ (by omega), if_pos (by omega)]
  · obtain rfl : i = n := by omega
    rw [if_neg h, if_pos rfl, if_neg h]
    unfold prevF
    by_cases h0 : i = 0
    · rw [if_pos h0, if_pos h0]
    · rw [if_neg h0, if_neg h0, upF_get _ _ _ _ (by omega), if_pos (by omega)]
theorem upF_zip (n : Nat) (f g : Nat → Nat) : upF n n (fun i => (f i + g i) % 2305843009213688669) = List.zipWith (fun a b => (a + b) % 2305843009213688669) (upF n n f) (upF n n g) := by
  apply getD_ext (by simp [upF])
  intro i hi
  rw [upF_len] at hi
  rw [upF_get _ _ _ _ hi, if_pos hi]
  simp [upF, hi]
end Go.Proofs.Ytpoclogglenhnaa
