/-
  Package field: values of polynomials; its functions, and the reference's.
-/
import Derived.Test.YtmeoicfeiamkmaaFp
namespace Go.Proofs.Ytmeoicfeiamkmaa
open Go.RowKit
set_option linter.unusedVariables false
set_option linter.unusedSimpArgs false

/-- The value of a polynomial, by Horner's way. -/
def evQ (x : Nat) (l : List Int) : Nat := l.foldr (fun c y => (y * x % 2305843009213688669 + c.toNat) % 2305843009213688669) 0
theorem evQ_cons (x : Nat) (c : Int) (l : List Int) : evQ x (c :: l) = (evQ x l * x % 2305843009213688669 + c.toNat) % 2305843009213688669 := rfl
theorem evQ_lt (x : Nat) (l : List Int) : evQ x l < 2305843009213688669 := by
  cases l with
  | nil => exact Nat.zero_lt_succ _
  | cons c l => exact Nat.mod_lt _ (by decide)

theorem check_cells (g : Nat) (l : List Int) (w : World) (hl : l.length ≤ 3) (hc : ∀ j (h : j < l.length), w.cell? ⟨g, j, none⟩ = some (.int .i64 l[j])) :
    Calls Try.prog 32 #[.slice (some ⟨g, 0, none⟩) l.length l.length] w fun e w' => e = .returned (.int .i64 (if l.all scal then 0 else 1)) ∧ w' = w :=
  check_any _ _ l w ⟨by unfold maxLen; omega, .inr ⟨_, rfl, fun j h => by rw [← hc j h]; congr 1; simp [Addr.add]; rintro rfl; rfl⟩⟩

theorem check1 (g : Nat) (a : Int) (w : World) (h0 : w.cell? ⟨g, 0, none⟩ = some (.int .i64 a)) :
    Calls Try.prog 32 #[.slice (some ⟨g, 0, none⟩) 1 1] w fun e w' => e = .returned (.int .i64 (if scal a then 0 else 1)) ∧ w' = w := by
  have h := check_cells g [a] w (by simp) (fun j hj => by
    obtain rfl : j = 0 := by simpa using hj
    exact h0)
  simpa using h
theorem check2 (g : Nat) (a b : Int) (w : World) (h0 : w.cell? ⟨g, 0, none⟩ = some (.int .i64 a)) (h1 : w.cell? ⟨g, 1, none⟩ = some (.int .i64 b)) :
    Calls Try.prog 32 #[.slice (some ⟨g, 0, none⟩) 2 2] w fun e w' => e = .returned (.int .i64 (if scal a && scal b then 0 else 1)) ∧ w' = w := by
  have h := check_cells g [a, b] w (by simp) (fun j hj => by
    have hj : j < 2 := hj
    match j, hj with
    | 0, _ => exact h0
    | 1, _ => exact h1)
  simpa using h
theorem check1_ok (g : Nat) (a : Nat) (ha : a < 2305843009213688669) (w : World) (h0 : w.cell? ⟨g, 0, none⟩ = some (.int .i64 a)) :
    Calls Try.prog 32 #[.slice (some ⟨g, 0, none⟩) 1 1] w fun e w' => e = .returned (.int .i64 0) ∧ w' = w := by
  have h := check1 g a w h0
  rw [scal_nat ha] at h; exact h
theorem check1_bad (g : Nat) (a : Int) (ha : scal a = false) (w : World) (h0 : w.cell? ⟨g, 0, none⟩ = some (.int .i64 a)) :
    Calls Try.prog 32 #[.slice (some ⟨g, 0, none⟩) 1 1] w fun e w' => e = .returned (.int .i64 1) ∧ w' = w := by
  have h := check1 g a w h0
  rw [ha] at h; exact h
theorem check2_ok (g : Nat) (a b : Nat) (ha : a < 2305843009213688669) (hb : b < 2305843009213688669) (w : World) (h0 : w.cell? ⟨g, 0, none⟩ = some (.int .i64 a)) (h1 : w.cell? ⟨g, 1, none⟩ = some (.int .i64 b)) :
    Calls Try.prog 32 #[.slice (some ⟨g, 0, none⟩) 2 2] w fun e w' => e = .returned (.int .i64 0) ∧ w' = w := by
  have h := check2 g a b w h0 h1
  rw [scal_nat ha, scal_nat hb] at h; exact h
theorem check2_bad (g : Nat) (a b : Int) (hab : (scal a && scal b) = false) (w : World) (h0 : w.cell? ⟨g, 0, none⟩ = some (.int .i64 a)) (h1 : w.cell? ⟨g, 1, none⟩ = some (.int .i64 b)) :
    Calls Try.prog 32 #[.slice (some ⟨g, 0, none⟩) 2 2] w fun e w' => e = .returned (.int .i64 1) ∧ w' = w := by
  have h := check2 g a b w h0 h1
  rw [hab] at h; exact h

theorem fCheck (a : Int) (w : World) :
    Calls Try.prog 28 #[.int .i64 a] w fun e w' => e = .returned (.int .i64 (if scal a then 0 else 1)) ∧ Below w.heap.size w w' := by
  obtain ⟨G, hG⟩ : ∃ G : Int, (if scal a = true then 0 else 1) = G := ⟨_, rfl⟩
  rw [hG]
  have h := fun (w : World) h0 => check1 w.heap.size a (w.alloc (.cells #[.int .i64 a] 3)) h0
  rw [hG] at h
  clear hG
  go_enter Try.func28, Try.ntmps28
  go_wp2_with (go_at_call 32; refine (h _ (by simp)).mono ?_; rintro e w' ⟨rfl, hw⟩; rw [hw]; clear hw w')
  go_ret
  exact ⟨rfl, (Below.refl _ _).alloc (Nat.le_refl _) _⟩

theorem fAdd (a b : Nat) (ha : a < 2305843009213688669) (hb : b < 2305843009213688669) (w : World) :
    Calls Try.prog 21 #[.int .i64 a, .int .i64 b] w fun e w' => e = .returned (.tuple #[.int .i64 (((a + b) % 2305843009213688669 : Nat) : Int), .int .i64 0]) ∧ Below w.heap.size w w' := by
  go_enter Try.func21, Try.ntmps21
  go_wp2_with (first
    | (go_at_call 32; refine (check2_ok _ _ _ ha hb _ (by simp) (by simp)).mono ?_; rintro e w' ⟨rfl, hw⟩; rw [hw]; clear hw w')
    | (go_at_call 33; refine (sum_any _ _ ha hb _).mono ?_; rintro e w' ⟨rfl, hw⟩; rw [hw]; clear hw w'))
  go_ret2
  exact ⟨rfl, (Below.refl _ _).alloc (Nat.le_refl _) _⟩
theorem fAdd_bad (a b : Int) (hab : (scal a && scal b) = false) (w : World) :
    Calls Try.prog 21 #[.int .i64 a, .int .i64 b] w fun e w' => e = .returned (.tuple #[.int .i64 0, .int .i64 1]) ∧ Below w.heap.size w w' := by
  go_enter Try.func21, Try.ntmps21
  go_wp2_with (go_at_call 32; refine (check2_bad _ _ _ hab _ (by simp) (by simp)).mono ?_; rintro e w' ⟨rfl, hw⟩; rw [hw]; clear hw w')
  go_ret2
  exact ⟨rfl, (Below.refl _ _).alloc (Nat.le_refl _) _⟩

theorem fMul (a b : Nat) (ha : a < 2305843009213688669) (hb : b < 2305843009213688669) (w : World) :
    Calls Try.prog 22 #[.int .i64 a, .int .i64 b] w fun e w' => e = .returned (.tuple #[.int .i64 ((a * b % 2305843009213688669 : Nat) : Int), .int .i64 0]) ∧ Below w.heap.size w w' := by
  go_enter Try.func22, Try.ntmps22
  go_wp2_with (first
    | (go_at_call 32; refine (check2_ok _ _ _ ha hb _ (by simp) (by simp)).mono ?_; rintro e w' ⟨rfl, hw⟩; rw [hw]; clear hw w')
    | (go_at_call 34; refine (product_any _ _ ha hb _).mono ?_; rintro e w' ⟨rfl, k, hw⟩; rw [hw]; clear hw w'))
  go_ret2
  exact ⟨rfl, below_drewN ((Below.refl _ _).alloc (Nat.le_refl _) _) _⟩
theorem fMul_bad (a b : Int) (hab : (scal a && scal b) = false) (w : World) :
    Calls Try.prog 22 #[.int .i64 a, .int .i64 b] w fun e w' => e = .returned (.tuple #[.int .i64 0, .int .i64 1]) ∧ Below w.heap.size w w' := by
  go_enter Try.func22, Try.ntmps22
  go_wp2_with (go_at_call 32; refine (check2_bad _ _ _ hab _ (by simp) (by simp)).mono ?_; rintro e w' ⟨rfl, hw⟩; rw [hw]; clear hw w')
  go_ret2
  exact ⟨rfl, (Below.refl _ _).alloc (Nat.le_refl _) _⟩

theorem inverse_any (a : Nat) (ha : a < 2305843009213688669) (w : World) :
    Calls Try.prog 35 #[.int .i64 a] w fun e w' => e = .returned (.int .i64 ((a ^ (kQ - 1) % 2305843009213688669 : Nat) : Int)) ∧ Below w.heap.size w w' := by
  have h := fun w => power_any a (kQ - 1) ha (by unfold kQ; omega) w
  have e : ((kQ - 1 : Nat) : Int) = 2305843009213688667 := by unfold kQ; rfl
  rw [e] at h
  generalize a ^ (kQ - 1) % 2305843009213688669 = r at *
  go_enter Try.func35, Try.ntmps35
  go_wp2_with (go_at_call 41; refine (h _).mono ?_; rintro e w' ⟨rfl, hb⟩)
  go_ret
  exact ⟨rfl, hb⟩

theorem fInv (a : Nat) (h0 : a ≠ 0) (ha : a < 2305843009213688669) (w : World) :
    Calls Try.prog 23 #[.int .i64 a] w fun e w' => e = .returned (.tuple #[.int .i64 ((a ^ (kQ - 1) % 2305843009213688669 : Nat) : Int), .int .i64 0]) ∧ Below w.heap.size w w' := by
  have h := inverse_any a ha
  have f1 : ((a : Int) == 0) = false := by simp; omega
  generalize a ^ (kQ - 1) % 2305843009213688669 = r at *
  go_enter Try.func23, Try.ntmps23
  go_wp2_with (first
    | (go_at_call 32; refine (check1_ok _ _ ha _ (by simp)).mono ?_; rintro e w' ⟨rfl, hw⟩; rw [hw]; clear hw w')
    | (go_at_call 35; refine (h _).mono ?_; rintro e w' ⟨rfl, hb⟩))
  go_ret2
  exact ⟨rfl, ((Below.refl _ _).alloc (Nat.le_refl _) _).trans (hb.mono (by simp))⟩
theorem fInv_zero (w : World) :
    Calls Try.prog 23 #[.int .i64 0] w fun e w' => e = .returned (.tuple #[.int .i64 0, .int .i64 30]) ∧ Below w.heap.size w w' := by
  go_enter Try.func23, Try.ntmps23
  go_wp2_with (go_at_call 32; refine (check1_ok _ 0 (by decide) _ (by simp)).mono ?_; rintro e w' ⟨rfl, hw⟩; rw [hw]; clear hw w')
  go_ret2
  exact ⟨rfl, (Below.refl _ _).alloc (Nat.le_refl _) _⟩
theorem fInv_bad (a : Int) (ha : scal a = false) (w : World) :
    Calls Try.prog 23 #[.int .i64 a] w fun e w' => e = .returned (.tuple #[.int .i64 0, .int .i64 1]) ∧ Below w.heap.size w w' := by
  go_enter Try.func23, Try.ntmps23
  go_wp2_with (go_at_call 32; refine (check1_bad _ _ ha _ (by simp)).mono ?_; rintro e w' ⟨rfl, hw⟩; rw [hw]; clear hw w')
  go_ret2
  exact ⟨rfl, (Below.refl _ _).alloc (Nat.le_refl _) _⟩

theorem checkL_ok (a : Option Addr) (cap : Nat) (l : List Int) (w : World) (hl : RdI w a l) (hs : ∀ c ∈ l, scal c = true) :
    Calls Try.prog 32 #[.slice a l.length cap] w fun e w' => e = .returned (.int .i64 0) ∧ w' = w := by
  have h := check_any a cap l w hl
  rw [List.all_eq_true.2 hs] at h; exact h
theorem checkL_bad (a : Option Addr) (cap : Nat) (l : List Int) (w : World) (hl : RdI w a l) (hs : l.all scal = false) :
    Calls Try.prog 32 #[.slice a l.length cap] w fun e w' => e = .returned (.int .i64 1) ∧ w' = w := by
  have h := check_any a cap l w hl
  rw [hs] at h; exact h
theorem RdI.alloc {w : World} {a : Option Addr} {l : List Int} (h : RdI w a l) (o : Obj) : RdI (w.alloc o) a l :=
  ⟨h.1, h.2.imp id fun ⟨x, ha, hc⟩ => ⟨x, ha, fun j hj => cellAlloc o (hc j hj)⟩⟩

end Go.Proofs.Ytmeoicfeiamkmaa
