/-
  Package field: values of polynomials; its functions, and the reference's.
-/
import Derived.Test.YtmeoicfeiamkmaaDoorFp
namespace Go.Proofs.YtmeoicfeiamkmaaDoor
open Go.RowKit
set_option linter.unusedVariables false
set_option linter.unusedSimpArgs false

/-- The value of a polynomial, by Horner's way. -/
def evQ (x : Nat) (l : List Int) : Nat := l.foldr (fun c y => (y * x % 2305843009213688669 + c.toNat) % 2305843009213688669) 0
theorem evQ_cons (x : Nat) (c : Int) (l : List Int) : evQ x (c :: l) = (evQ x l * x % 2305843009213688669 + c.toNat) % 2305843009213688669 := rfl
theorem evQ_lt (x : Nat) (l : List Int) : evQ x l < 2305843009213688669 := by
  cases l with
  | nil => exact Nat.zero_lt_succ _
  | cons c l => exact Nat.mod_lt _ (by decide)

theorem check_cells (g : Nat) (l : List Int) (w : World) (hl : l.length ≤ 3) (hc : ∀ j (h : j < l.length), w.cell? ⟨g, j, none⟩ = some (.int .i64 l[j])) :
    Calls Tryd.prog 35 #[.slice (some ⟨g, 0, none⟩) l.length l.length] w fun e w' => e = .returned (.int .i64 (if l.all scal then 0 else 1)) ∧ w' = w :=
  fcheck_any _ _ l w ⟨by unfold maxLen; omega, .inr ⟨_, rfl, fun j h => by rw [← hc j h]; congr 1; simp [Addr.add]; rintro rfl; rfl⟩⟩

theorem check1 (g : Nat) (a : Int) (w : World) (h0 : w.cell? ⟨g, 0, none⟩ = some (.int .i64 a)) :
    Calls Tryd.prog 35 #[.slice (some ⟨g, 0, none⟩) 1 1] w fun e w' => e = .returned (.int .i64 (if scal a then 0 else 1)) ∧ w' = w := by
  have h := check_cells g [a] w (by simp) (fun j hj => by
    obtain rfl : j = 0 := by simpa using hj
    exact h0)
  simpa using h
theorem check2 (g : Nat) (a b : Int) (w : World) (h0 : w.cell? ⟨g, 0, none⟩ = some (.int .i64 a)) (h1 : w.cell? ⟨g, 1, none⟩ = some (.int .i64 b)) :
    Calls Tryd.prog 35 #[.slice (some ⟨g, 0, none⟩) 2 2] w fun e w' => e = .returned (.int .i64 (if scal a && scal b then 0 else 1)) ∧ w' = w := by
  have h := check_cells g [a, b] w (by simp) (fun j hj => by
    have hj : j < 2 := hj
    match j, hj with
    | 0, _ => exact h0
    | 1, _ => exact h1)
  simpa using h
theorem check1_ok (g : Nat) (a : Nat) (ha : a < 2305843009213688669) (w : World) (h0 : w.cell? ⟨g, 0, none⟩ = some (.int .i64 a)) :
    Calls Tryd.prog 35 #[.slice (some ⟨g, 0, none⟩) 1 1] w fun e w' => e = .returned (.int .i64 0) ∧ w' = w := by
  have h := check1 g a w h0
  rw [scal_nat ha] at h; exact h
theorem check1_bad (g : Nat) (a : Int) (ha : scal a = false) (w : World) (h0 : w.cell? ⟨g, 0, none⟩ = some (.int .i64 a)) :
    Calls Tryd.prog 35 #[.slice (some ⟨g, 0, none⟩) 1 1] w fun e w' => e = .returned (.int .i64 1) ∧ w' = w := by
  have h := check1 g a w h0
  rw [ha] at h; exact h
theorem check2_ok (g : Nat) (a b : Nat) (ha : a < 2305843009213688669) (hb : b < 2305843009213688669) (w : World) (h0 : w.cell? ⟨g, 0, none⟩ = some (.int .i64 a)) (h1 : w.cell? ⟨g, 1, none⟩ = some (.int .i64 b)) :
    Calls Tryd.prog 35 #[.slice (some ⟨g, 0, none⟩) 2 2] w fun e w' => e = .returned (.int .i64 0) ∧ w' = w := by
  have h := check2 g a b w h0 h1
  rw [scal_nat ha, scal_nat hb] at h; exact h
theorem check2_bad (g : Nat) (a b : Int) (hab : (scal a && scal b) = false) (w : World) (h0 : w.cell? ⟨g, 0, none⟩ = some (.int .i64 a)) (h1 : w.cell? ⟨g, 1, none⟩ = some (.int .i64 b)) :
    Calls Tryd.prog 35 #[.slice (some ⟨g, 0, none⟩) 2 2] w fun e w' => e = .returned (.int .i64 1) ∧ w' = w := by
  have h := check2 g a b w h0 h1
  rw [hab] at h; exact h

theorem fCheck (a : Int) (w : World) :
    Calls Tryd.prog 23 #[.int .i64 a] w fun e w' => e = .returned (.int .i64 (if scal a then 0 else 1)) ∧ Below w.heap.size w w' := by
  obtain ⟨G, hG⟩ : ∃ G : Int, (if scal a = true then 0 else 1) = G := ⟨_, rfl⟩
  rw [hG]
  have h := fun (w : World) h0 => check1 w.heap.size a (w.alloc (.cells #[.int .i64 a] 3)) h0
  rw [hG] at h
  clear hG
  go_enter Tryd.func23, Tryd.ntmps23
  go_wp2_with (go_at_call 35; refine (h _ (by simp)).mono ?_; rintro e w' ⟨rfl, hw⟩; rw [hw]; clear hw w')
  go_ret
  exact ⟨rfl, (Below.refl _ _).alloc (Nat.le_refl _) _⟩

theorem checkL_ok (a : Option Addr) (cap : Nat) (l : List Int) (w : World) (hl : RdI w a l) (hs : ∀ c ∈ l, scal c = true) :
    Calls Tryd.prog 35 #[.slice a l.length cap] w fun e w' => e = .returned (.int .i64 0) ∧ w' = w := by
  have h := fcheck_any a cap l w hl
  rw [List.all_eq_true.2 hs] at h; exact h
theorem checkL_bad (a : Option Addr) (cap : Nat) (l : List Int) (w : World) (hl : RdI w a l) (hs : l.all scal = false) :
    Calls Tryd.prog 35 #[.slice a l.length cap] w fun e w' => e = .returned (.int .i64 1) ∧ w' = w := by
  have h := fcheck_any a cap l w hl
  rw [hs] at h; exact h
theorem RdI.alloc {w : World} {a : Option Addr} {l : List Int} (h : RdI w a l) (o : Obj) : RdI (w.alloc o) a l :=
  ⟨h.1, h.2.imp id fun ⟨x, ha, hc⟩ => ⟨x, ha, fun j hj => cellAlloc o (hc j hj)⟩⟩

end Go.Proofs.YtmeoicfeiamkmaaDoor
