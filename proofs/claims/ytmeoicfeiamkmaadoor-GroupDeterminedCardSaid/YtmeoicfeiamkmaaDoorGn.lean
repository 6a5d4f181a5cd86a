/-
  The chapter's examples of the group.
-/
import Derived.Test.YtmeoicfeiamkmaaDoorGr
namespace Go.Proofs.YtmeoicfeiamkmaaDoor
open Go.RowKit
set_option linter.unusedVariables false
set_option linter.unusedSimpArgs false

theorem el1 : IsEl 1 := isEl_of (n := 1) (by decide) El.one
theorem el4 : IsEl 4 := isEl_of (n := 4) (by decide) (El.sq (a := 2) (by decide))
theorem el16 : IsEl 16 := isEl_of (n := 16) (by decide) (El.sq (a := 4) (by decide))
theorem no2 : ¬ IsEl 2 := fun h => by
  have h1 : El 2 := h.2.2
  unfold El at h1
  rw [← powB_eq 4611686018427377339 64 2 oQ (by decide)] at h1
  revert h1
  decide +kernel
theorem noM : ¬ IsEl 4611686018427377338 := fun h => (El.half (a := 1) (by decide) (by decide)).1 h.2.2 El.one
def badL : List Int := [0, 4611686018427377339, 4611686018427377338, 2, -4, 4611686018427387904]
theorem badL_no : ∀ k, k < 6 → ¬ IsEl (badL.getD k 0)
  | 0, _ => fun h => absurd h.1 (by decide)
  | 1, _ => fun h => absurd h.2.1 (by decide)
  | 2, _ => noM
  | 3, _ => no2
  | 4, _ => fun h => absurd h.1 (by decide)
  | 5, _ => fun h => absurd h.2.1 (by decide)
theorem inv4 : 4 ^ (oQ - 1) % 4611686018427377339 = 1152921504606844335 := by
  rw [← powB_eq 4611686018427377339 64 4 (oQ - 1) (by decide)]
  decide +kernel
theorem x0 (w : World) : Calls Tryd.prog 12 #[.int .i64 4, .int .i64 4] w fun e w' => e = .returned (.tuple #[.int .i64 16, .int .i64 0]) ∧ Below w.heap.size w w' := gMul_ok 4 4 el4 el4 w
theorem x1 (w : World) : Calls Tryd.prog 13 #[.int .i64 3] w fun e w' => e = .returned (.tuple #[.int .i64 64, .int .i64 0]) ∧ Below w.heap.size w w' := by
  have h := gBase_any 3 w
  have e : expR 4 3 = (64, 0) := expR_ok (a := 4) (k := 3) el4 (by decide)
  rw [e] at h; exact h
theorem x2 (w : World) : Calls Tryd.prog 14 #[.int .i64 4, .int .i64 (-1)] w fun e w' => e = .returned (.tuple #[.int .i64 0, .int .i64 1]) ∧ Below w.heap.size w w' := gExp_arg 4 (-1) el4 (by decide) w
theorem x3 (w : World) : Calls Tryd.prog 14 #[.int .i64 4, .int .i64 2305843009213688669] w fun e w' => e = .returned (.tuple #[.int .i64 0, .int .i64 1]) ∧ Below w.heap.size w w' := gExp_arg 4 2305843009213688669 el4 (by decide) w
theorem x4 (w : World) : Calls Tryd.prog 15 #[.int .i64 1] w fun e w' => e = .returned (.tuple #[.int .i64 1, .int .i64 0]) ∧ Below w.heap.size w w' := by
  have h := gInv_ok 1 el1 w
  rw [Nat.one_pow] at h; exact h
theorem x5 (w : World) : Calls Tryd.prog 15 #[.int .i64 4] w fun e w' => e = .returned (.tuple #[.int .i64 1152921504606844335, .int .i64 0]) ∧ Below w.heap.size w w' := by
  have h := gInv_ok 4 el4 w
  rw [inv4] at h; exact h
theorem x6 (w : World) : Calls Tryd.prog 14 #[.int .i64 16, .int .i64 0] w fun e w' => e = .returned (.tuple #[.int .i64 1, .int .i64 0]) ∧ Below w.heap.size w w' := gExp_ok 16 0 el16 (by decide) w
theorem x7 (w : World) : Calls Tryd.prog 10 #[.int .i64 1] w fun e w' => e = .returned (.int .i64 0) ∧ Below w.heap.size w w' := gCheck_ok 1 el1 w
theorem x8 (w : World) : Calls Tryd.prog 10 #[.int .i64 4] w fun e w' => e = .returned (.int .i64 0) ∧ Below w.heap.size w w' := gCheck_ok 4 el4 w
theorem x9 (w : World) : Calls Tryd.prog 10 #[.int .i64 16] w fun e w' => e = .returned (.int .i64 0) ∧ Below w.heap.size w w' := gCheck_ok 16 el16 w

set_option maxRecDepth 100000 in
set_option maxHeartbeats 4000000 in
theorem gsane_any (w : World) : Calls Tryd.prog 5 #[] w fun e w' => e = .returned (.bool true) ∧ Below w.heap.size w w' := by
  have HB := Below.refl w.heap.size w
  go_enter Tryd.func5, Tryd.ntmps5
  go_wp2_with (first
    | (go_at_call 12; with_reducible refine (x0 _).mono ?_; rintro e w1 ⟨rfl, hb⟩; replace HB := belowNext HB hb; clear hb)
    | (go_at_call 13; with_reducible refine (x1 _).mono ?_; rintro e w1 ⟨rfl, hb⟩; replace HB := belowNext HB hb; clear hb)
    | (go_at_call 14; with_reducible refine (x2 _).mono ?_; rintro e w1 ⟨rfl, hb⟩; replace HB := belowNext HB hb; clear hb)
    | (go_at_call 14; with_reducible refine (x3 _).mono ?_; rintro e w1 ⟨rfl, hb⟩; replace HB := belowNext HB hb; clear hb)
    | (go_at_call 14; with_reducible refine (x6 _).mono ?_; rintro e w1 ⟨rfl, hb⟩; replace HB := belowNext HB hb; clear hb)
    | (go_at_call 15; with_reducible refine (x4 _).mono ?_; rintro e w1 ⟨rfl, hb⟩; replace HB := belowNext HB hb; clear hb)
    | (go_at_call 15; with_reducible refine (x5 _).mono ?_; rintro e w1 ⟨rfl, hb⟩; replace HB := belowNext HB hb; clear hb))
  generalize hB : w1.heap.size = B at *
  have hcell : ∀ j, j < 6 → (w1.alloc (.cells #[.int .i64 0, .int .i64 4611686018427377339, .int .i64 4611686018427377338, .int .i64 2, .int .i64 (-4), .int .i64 4611686018427387904] 3)).cell? ⟨B, j, none⟩ = some (.int .i64 (badL.getD j 0)) := by
    intro j hj
    rw [← hB]
    match j, hj with
    | 0, _ => simp [Addr.add, badL]
    | 1, _ => simp [Addr.add, badL]
    | 2, _ => simp [Addr.add, badL]
    | 3, _ => simp [Addr.add, badL]
    | 4, _ => simp [Addr.add, badL]
    | 5, _ => simp [Addr.add, badL]
  have HB2 : Below w.heap.size w (w1.alloc (.cells #[.int .i64 0, .int .i64 4611686018427377339, .int .i64 4611686018427377338, .int .i64 2, .int .i64 (-4), .int .i64 4611686018427387904] 3)) := belowNext HB ((Below.refl _ _).alloc (Nat.le_refl _) _)
  have HC := Lib.hid hcell
  clear hcell HB
  generalize w1.alloc (.cells #[.int .i64 0, .int .i64 4611686018427377339, .int .i64 4611686018427377338, .int .i64 2, .int .i64 (-4), .int .i64 4611686018427387904] 3) = W2 at *
  go_loopw [47] (fun i wr => ∃ k : Nat, i = .int .i64 k ∧ k ≤ 6 ∧ Below w.heap.size w wr ∧ Hid (∀ j, j < 6 → wr.cell? ⟨B, j, none⟩ = some (.int .i64 (badL.getD j 0)))) (fun i _ => 6 - (intOf i).toNat)
  case atStart => exact ⟨0, rfl, by omega, HB2, HC⟩
  case round =>
    obtain ⟨k, rfl, hk, hb, hc⟩ := hrel
    clear HB2 HC
    by_cases hlt : k < 6
    · have f1 : decide ((k : Int) < 6) = true := decide_eq_true (by omega)
      have f2 : decide (k < 6) = true := decide_eq_true hlt
      have f3 : k + 1 ≤ 6 := hlt
      clear hk
      have c1 := hc.out k hlt
      have HK := Lib.hid (fun w => gCheck_bad (badL.getD k 0) (badL_no k hlt) w)
      generalize badL.getD k 0 = v at *
      go_wp2_with (go_at_call 10; with_reducible refine (HK.out _).mono ?_; rintro e w3 ⟨rfl, hb3⟩)

      go_roundw
      case rel =>
        refine ⟨k + 1, by go_num, f3, belowNext hb hb3, Lib.hid (fun j hj => (hb3.cell ?_).trans (hc.out j hj))⟩
        obtain ⟨o, ho, _⟩ := cells_of_cell (hc.out j hj)
        exact (Array.getElem?_eq_some_iff.1 ho).1
      case measure => simp [intOf]; omega
    · obtain rfl : k = 6 := by omega
      clear hc
      replace HB := hb
      clear hb
      have f1 : decide (((6 : Nat) : Int) < 6) = false := by decide
      go_wp2_with (first
        | (go_at_call 10; with_reducible refine (x7 _).mono ?_; rintro e w3 ⟨rfl, hb⟩; replace HB := belowNext HB hb; clear hb)
        | (go_at_call 10; with_reducible refine (x8 _).mono ?_; rintro e w3 ⟨rfl, hb⟩; replace HB := belowNext HB hb; clear hb)
        | (go_at_call 10; with_reducible refine (x9 _).mono ?_; rintro e w3 ⟨rfl, hb⟩; replace HB := belowNext HB hb; clear hb))
      go_ret
      exact ⟨rfl, HB⟩
end Go.Proofs.YtmeoicfeiamkmaaDoor
