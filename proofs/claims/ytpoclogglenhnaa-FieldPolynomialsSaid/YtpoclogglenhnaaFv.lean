/-
  The walk of chartroomlaw03.FieldEvalSpec.
-/
import Derived.Test.YtpoclogglenhnaaFw
namespace Go.Proofs.Ytpoclogglenhnaa
open Go.RowKit
set_option linter.unusedVariables false
set_option linter.unusedSimpArgs false

theorem RdI.below {w w' : World} {a : Option Addr} {l : List Int} (h : RdI w a l) (hb : Below w.heap.size w w') : RdI w' a l :=
  ⟨h.1, h.2.imp id fun ⟨x, ha, hc⟩ => ⟨x, ha, fun j hj => by
    have h1 := hc j hj
    obtain ⟨o, ho, _⟩ := cells_of_cell h1
    exact (hb.cell (p := x.add j) (Array.getElem?_eq_some_iff.1 ho).1).trans h1⟩⟩

set_option maxRecDepth 100000 in
set_option maxHeartbeats 4000000 in
theorem evalSpec_walk (a : Option Addr) (cap : Nat) (l : List Int) (x : Int) (w : World) (hl : RdI w a l) :
    Calls Try.prog 5 #[.slice a l.length cap, .int .i64 x] w fun e w' => e = .returned (.bool true) ∧ Below w.heap.size w w' := by
  have hm := hl.1
  unfold maxLen at hm
  by_cases h200 : 200 < l.length
  · have f1 : decide ((200 : Int) < (l.length : Int)) = true := decide_eq_true (by omega)
    clear hl
    generalize l.length = n at *
    have HB := Below.refl w.heap.size w
    go_enter Try.func5, Try.ntmps5
    go_wp2_with (first
      | (go_at_call 10; with_reducible refine (sane_any _).mono ?_; rintro e w1 ⟨rfl, hb⟩; replace HB := belowNext HB hb; clear hb))
    go_ret
    exact ⟨rfl, HB⟩
  have f1 : decide ((200 : Int) < (l.length : Int)) = false := decide_eq_false (by omega)
  by_cases hx : scal x = true
  · obtain ⟨x, rfl, hxl⟩ := nat_of hx
    clear hx
    by_cases hs : l.all scal = true
    · have hs' : ∀ c ∈ l, scal c = true := List.all_eq_true.1 hs
      have k1 := fun (w' : World) (h : Below w.heap.size w w') => fEval a cap l x hxl hs' w' (hl.below h)
      have k2 := fun (w' : World) (h : Below w.heap.size w w') => rEval_any a cap l x hxl w' (hl.below h)
      simp only [hs, if_true] at k2
      clear hs hs' hl
      generalize evQ x l = y at *
      generalize l.length = n at *
      have HB := Below.refl w.heap.size w
      go_enter Try.func5, Try.ntmps5
      go_wp2_with (first
        | (go_at_call 10; with_reducible refine (sane_any _).mono ?_; rintro e w1 ⟨rfl, hb⟩; replace HB := belowNext HB hb; clear hb)
        | (go_at_call 23; with_reducible refine (k1 _ HB).mono ?_; rintro e w1 ⟨rfl, hb⟩; replace HB := belowNext HB hb; clear hb)
        | (go_at_call 24; with_reducible refine (k2 _ HB).mono ?_; rintro e w1 ⟨rfl, hw⟩; rw [hw]; clear hw w1))
      go_ret
      exact ⟨rfl, HB⟩
    · have hs : l.all scal = false := by simpa using hs
      have k1 := fun (w' : World) (h : Below w.heap.size w w') => fEval_bad1 a cap l x hs w' (hl.below h)
      have k2 := fun (w' : World) (h : Below w.heap.size w w') => rEval_any a cap l x hxl w' (hl.below h)
      simp only [hs, Bool.false_eq_true, if_false] at k2
      clear hs hl
      generalize l.length = n at *
      have HB := Below.refl w.heap.size w
      go_enter Try.func5, Try.ntmps5
      go_wp2_with (first
        | (go_at_call 10; with_reducible refine (sane_any _).mono ?_; rintro e w1 ⟨rfl, hb⟩; replace HB := belowNext HB hb; clear hb)
        | (go_at_call 23; with_reducible refine (k1 _ HB).mono ?_; rintro e w1 ⟨rfl, hb⟩; replace HB := belowNext HB hb; clear hb)
        | (go_at_call 24; with_reducible refine (k2 _ HB).mono ?_; rintro e w1 ⟨rfl, hw⟩; rw [hw]; clear hw w1))
      go_ret
      exact ⟨rfl, HB⟩
  · have hx : scal x = false := by simpa using hx
    have k2 := fun (w' : World) => rEval_bad a cap l.length x hx w'
    have k1 : ∀ (w' : World) (h : Below w.heap.size w w'), Calls Try.prog 23 #[.slice a l.length cap, .int .i64 x] w' fun e w2 => e = .returned (.tuple #[.int .i64 0, .int .i64 1]) ∧ Below w'.heap.size w' w2 := by
      intro w' h
      by_cases hs : l.all scal = true
      · exact fEval_bad2 a cap l x (List.all_eq_true.1 hs) hx w' (hl.below h)
      · exact fEval_bad1 a cap l x (by simpa using hs) w' (hl.below h)
    clear hl hx
    generalize l.length = n at *
    have HB := Below.refl w.heap.size w
    go_enter Try.func5, Try.ntmps5
    go_wp2_with (first
      | (go_at_call 10; with_reducible refine (sane_any _).mono ?_; rintro e w1 ⟨rfl, hb⟩; replace HB := belowNext HB hb; clear hb)
      | (go_at_call 23; with_reducible refine (k1 _ HB).mono ?_; rintro e w1 ⟨rfl, hb⟩; replace HB := belowNext HB hb; clear hb)
      | (go_at_call 24; with_reducible refine (k2 _).mono ?_; rintro e w1 ⟨rfl, hw⟩; rw [hw]; clear hw w1))
    go_ret
    exact ⟨rfl, HB⟩
end Go.Proofs.Ytpoclogglenhnaa
