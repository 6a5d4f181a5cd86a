/-
  The helpers of chartroomlaw08; the reference's Few, Check, Same.
-/
import Derived.Test.YtecojpkefobgpaaGreatDoorHk
namespace Go.Proofs.YtecojpkefobgpaaGreatDoor
open Go.RowKit
set_option linter.unusedVariables false
set_option linter.unusedSimpArgs false

/-- Whether there are few shares, or too many. -/
def fewB (n : Nat) : Bool := decide (n ≤ 12) || (decide (64 < n) && decide (n ≤ 100))
theorem few_any (a : Option Addr) (n cap : Nat) (hn : n ≤ maxLen) (w : World) :
    Calls Tryz.prog 6 #[.slice a n cap] w fun e w' => e = .returned (.bool (fewB n)) ∧ w' = w := by
  obtain ⟨C, hC⟩ : ∃ C, fewB n = C := ⟨_, rfl⟩
  rw [hC]
  have HC := Lib.hid hC
  clear hC
  unfold maxLen at hn
  by_cases h1 : n ≤ 12
  · have f1 : decide ((n : Int) ≤ 12) = true := decide_eq_true (by omega)
    have HF : Hid (true = C) := Lib.hid (by rw [← HC.out]; unfold fewB; rw [decide_eq_true h1]; rfl)
    go_enter Tryz.func6, Tryz.ntmps6
    go_wp2_with fail
    go_ret
    exact ⟨by rw [← HF.out]; rfl, rfl⟩
  · have f1 : decide ((n : Int) ≤ 12) = false := decide_eq_false (by omega)
    by_cases h2 : 64 < n
    · have f2 : decide (64 < (n : Int)) = true := decide_eq_true (by omega)
      by_cases h3 : n ≤ 100
      · have f3 : decide ((n : Int) ≤ 100) = true := decide_eq_true (by omega)
        have HF : Hid (true = C) := Lib.hid (by rw [← HC.out]; unfold fewB; rw [decide_eq_false h1, decide_eq_true h2, decide_eq_true h3]; rfl)
        go_enter Tryz.func6, Tryz.ntmps6
        go_wp2_with fail
        go_ret
        exact ⟨by rw [← HF.out]; rfl, rfl⟩
      · have f3 : decide ((n : Int) ≤ 100) = false := decide_eq_false (by omega)
        have HF : Hid (false = C) := Lib.hid (by rw [← HC.out]; unfold fewB; rw [decide_eq_false h1, decide_eq_true h2, decide_eq_false h3]; rfl)
        go_enter Tryz.func6, Tryz.ntmps6
        go_wp2_with fail
        go_ret
        exact ⟨by rw [← HF.out]; rfl, rfl⟩
    · have f2 : decide (64 < (n : Int)) = false := decide_eq_false (by omega)
      have HF : Hid (false = C) := Lib.hid (by rw [← HC.out]; unfold fewB; rw [decide_eq_false h1, decide_eq_false h2]; rfl)
      go_enter Tryz.func6, Tryz.ntmps6
      go_wp2_with fail
      go_ret
      exact ⟨by rw [← HF.out]; rfl, rfl⟩

theorem scalar8_any (a : Int) (w : World) :
    Calls Tryz.prog 21 #[.int .i64 a] w fun e w' => e = .returned (.bool (scal a)) ∧ w' = w := by
  unfold scal
  by_cases h : 0 ≤ a
  · have f1 : decide (0 ≤ a) = true := decide_eq_true h
    by_cases h2 : a < 2305843009213688669
    · have f2 : decide (a < 2305843009213688669) = true := decide_eq_true h2
      go_enter Tryz.func21, Tryz.ntmps21
      go_wp2_with fail
      go_ret
      first | exact ⟨rfl, rfl⟩ | exact ⟨by rw [f1, f2]; rfl, rfl⟩
    · have f2 : decide (a < 2305843009213688669) = false := decide_eq_false h2
      go_enter Tryz.func21, Tryz.ntmps21
      go_wp2_with fail
      go_ret
      first | exact ⟨rfl, rfl⟩ | exact ⟨by rw [f1, f2]; rfl, rfl⟩
  · have f1 : decide (0 ≤ a) = false := decide_eq_false h
    go_enter Tryz.func21, Tryz.ntmps21
    go_wp2_with fail
    go_ret
    first | exact ⟨rfl, rfl⟩ | exact ⟨by rw [f1]; rfl, rfl⟩

/-- A slice of bools that is read. -/
def RdT (B : Nat) (w : World) (a : Option Addr) (l : List Bool) : Prop :=
  l.length ≤ maxLen ∧ (l = [] ∨ ∃ b o, a = some ⟨b, o, none⟩ ∧ b < B ∧ ∀ j (h : j < l.length), w.cell? ⟨b, o + j, none⟩ = some (.bool l[j]))
theorem RdT.at_ {B : Nat} {w : World} {a : Option Addr} {l : List Bool} (h : RdT B w a l) (h0 : 0 < l.length) : ∃ b o, a = some ⟨b, o, none⟩ ∧ b < B ∧ ∀ j (h : j < l.length), w.cell? ⟨b, o + j, none⟩ = some (.bool l[j]) := by
  rcases h.2 with e | e
  · rw [e] at h0; cases h0
  · exact e
theorem RdT.call {w w' : World} {a : Option Addr} {l : List Bool} (h : RdT w.heap.size w a l) (hb : Below w.heap.size w w') : RdT w'.heap.size w' a l := by
  refine ⟨h.1, h.2.imp_right ?_⟩
  rintro ⟨b, o, e, hB, hc⟩
  exact ⟨b, o, e, Nat.lt_of_lt_of_le hB hb.size, fun j hj => (hb.cell (p := ⟨b, o + j, none⟩) hB).trans (hc j hj)⟩

end Go.Proofs.YtecojpkefobgpaaGreatDoor
