/-
  Package group's functions, and the reference's: checks, products, inverses, powers.
-/
import Derived.Test.YtmeoicfeiamkmaaDoorGp
import Derived.Test.YtmeoicfeiamkmaaDoorFe
namespace Go.Proofs.YtmeoicfeiamkmaaDoor
open Go.RowKit
set_option linter.unusedVariables false
set_option linter.unusedSimpArgs false

theorem belowNext {w a b : World} (h : Below w.heap.size w a) (k : Below a.heap.size a b) : Below w.heap.size w b := h.trans (k.mono h.size)

/-- Whether a number is an element. -/
noncomputable def elB (a : Int) : Bool := @decide (IsEl a) (Classical.propDecidable _)
theorem elB_true {a : Int} (h : IsEl a) : elB a = true := @decide_eq_true _ (Classical.propDecidable _) h
theorem elB_false {a : Int} (h : ¬ IsEl a) : elB a = false := @decide_eq_false _ (Classical.propDecidable _) h

theorem isElement_any (a : Int) (w : World) :
    Calls Tryd.prog 21 #[.int .i64 a] w fun e w' => e = .returned (.bool (elB a)) ∧ Below w.heap.size w w' := by
  by_cases h1 : 1 ≤ a
  · have f1 : decide (1 ≤ a) = true := decide_eq_true h1
    by_cases h2 : a < 4611686018427377339
    · have f2 : decide (a < 4611686018427377339) = true := decide_eq_true h2
      obtain ⟨n, rfl⟩ : ∃ n : Nat, a = (n : Int) := ⟨a.toNat, by omega⟩
      have hp := gpow_any n 2305843009213688669 (by omega) (by decide)
      obtain ⟨x, hx⟩ : ∃ x, n ^ 2305843009213688669 % 4611686018427377339 = x := ⟨_, rfl⟩
      have hb : elB (n : Int) = ((x : Int) == 1) := by
        by_cases h : x = 1
        · rw [elB_true ⟨h1, h2, by unfold El oQ; rw [Int.toNat_natCast, hx]; exact h⟩, h]; rfl
        · rw [elB_false (fun hh => h (by have := hh.2.2; unfold El oQ at this; rw [Int.toNat_natCast, hx] at this; exact this))]
          symm; simp; omega
      rw [hx] at hp
      rw [hb]
      clear hx hb
      have HP := Lib.hid hp
      clear hp
      go_enter Tryd.func21, Tryd.ntmps21
      go_wp2_with (go_at_call 24; refine (HP.out _).mono ?_; rintro e w1 ⟨rfl, hb⟩)
      go_ret
      exact ⟨rfl, hb⟩
    · have f2 : decide (a < 4611686018427377339) = false := decide_eq_false h2
      rw [elB_false (fun h => h2 h.2.1)]
      go_enter Tryd.func21, Tryd.ntmps21
      go_wp2_with fail
      go_ret
      exact ⟨rfl, Below.refl _ _⟩
  · have f1 : decide (1 ≤ a) = false := decide_eq_false h1
    rw [elB_false (fun h => h1 h.1)]
    go_enter Tryd.func21, Tryd.ntmps21
    go_wp2_with fail
    go_ret
    exact ⟨rfl, Below.refl _ _⟩

theorem gCheck_ok (a : Int) (h : IsEl a) (w : World) :
    Calls Tryd.prog 10 #[.int .i64 a] w fun e w' => e = .returned (.int .i64 0) ∧ Below w.heap.size w w' := by
  have hk := fun w => isElement_any a w
  rw [elB_true h] at hk
  go_enter Tryd.func10, Tryd.ntmps10
  go_wp2_with (go_at_call 21; refine (hk _).mono ?_; rintro e w1 ⟨rfl, hb⟩)
  go_ret
  exact ⟨rfl, hb⟩
theorem gCheck_bad (a : Int) (h : ¬ IsEl a) (w : World) :
    Calls Tryd.prog 10 #[.int .i64 a] w fun e w' => e = .returned (.int .i64 40) ∧ Below w.heap.size w w' := by
  have hk := fun w => isElement_any a w
  rw [elB_false h] at hk
  go_enter Tryd.func10, Tryd.ntmps10
  go_wp2_with (go_at_call 21; refine (hk _).mono ?_; rintro e w1 ⟨rfl, hb⟩)
  go_ret
  exact ⟨rfl, hb⟩
theorem gCheck_any (a : Int) (w : World) :
    Calls Tryd.prog 10 #[.int .i64 a] w fun e w' => e = .returned (.int .i64 (chkR a)) ∧ Below w.heap.size w w' := by
  by_cases h : IsEl a
  · rw [chkR_ok h]; exact gCheck_ok a h w
  · rw [chkR_bad h]; exact gCheck_bad a h w
theorem ginverse_any (a : Nat) (h : a < 4611686018427377339) (w : World) :
    Calls Tryd.prog 25 #[.int .i64 a] w fun e w' => e = .returned (.int .i64 ((a ^ (oQ - 1) % 4611686018427377339 : Nat) : Int)) ∧ Below w.heap.size w w' := by
  obtain ⟨o, ho⟩ : ∃ o, oQ - 1 = o := ⟨_, rfl⟩
  have hk := fun w => gpow_any a 2305843009213688668 h (by decide) w
  rw [show 2305843009213688668 = o from ho] at hk
  have e : ((o : Nat) : Int) = 2305843009213688668 := by rw [← ho]; rfl
  rw [e] at hk
  rw [ho]
  clear ho e
  generalize a ^ o % 4611686018427377339 = r at *
  go_enter Tryd.func25, Tryd.ntmps25
  go_wp2_with (go_at_call 24; refine (hk _).mono ?_; rintro e w1 ⟨rfl, hb⟩)
  go_ret
  exact ⟨rfl, hb⟩

theorem gMul_ok (a b : Nat) (ha : IsEl a) (hb : IsEl b) (w : World) :
    Calls Tryd.prog 12 #[.int .i64 a, .int .i64 b] w fun e w' => e = .returned (.tuple #[.int .i64 ((a * b % 4611686018427377339 : Nat) : Int), .int .i64 0]) ∧ Below w.heap.size w w' := by
  have k1 := fun w => gCheck_ok a ha w
  have k2 := fun w => gCheck_ok b hb w
  have k3 := fun w => gprod_any a b (by have := ha.2.1; omega) (by have := hb.2.1; omega) w
  clear ha hb
  generalize a * b % 4611686018427377339 = r at *
  have HB := Below.refl w.heap.size w
  go_enter Tryd.func12, Tryd.ntmps12
  go_wp2_with (first
    | (go_at_call 10; with_reducible refine (k1 _).mono ?_; rintro e w1 ⟨rfl, hb⟩; replace HB := belowNext HB hb; clear hb k1)
    | (go_at_call 10; with_reducible refine (k2 _).mono ?_; rintro e w1 ⟨rfl, hb⟩; replace HB := belowNext HB hb; clear hb)
    | (go_at_call 19; with_reducible refine (k3 _).mono ?_; rintro e w1 ⟨rfl, k, rfl⟩))
  go_ret2
  exact ⟨rfl, below_drewN HB _⟩
theorem gMul_bad1 (a b : Int) (ha : ¬ IsEl a) (w : World) :
    Calls Tryd.prog 12 #[.int .i64 a, .int .i64 b] w fun e w' => e = .returned (.tuple #[.int .i64 0, .int .i64 40]) ∧ Below w.heap.size w w' := by
  have k1 := fun w => gCheck_bad a ha w
  clear ha
  go_enter Tryd.func12, Tryd.ntmps12
  go_wp2_with (go_at_call 10; with_reducible refine (k1 _).mono ?_; rintro e w1 ⟨rfl, hb⟩)
  go_ret2
  exact ⟨rfl, hb⟩
theorem gMul_bad2 (a b : Int) (ha : IsEl a) (hb : ¬ IsEl b) (w : World) :
    Calls Tryd.prog 12 #[.int .i64 a, .int .i64 b] w fun e w' => e = .returned (.tuple #[.int .i64 0, .int .i64 40]) ∧ Below w.heap.size w w' := by
  have k1 := fun w => gCheck_ok a ha w
  have k2 := fun w => gCheck_bad b hb w
  clear ha hb
  have HB := Below.refl w.heap.size w
  go_enter Tryd.func12, Tryd.ntmps12
  go_wp2_with (first
    | (go_at_call 10; with_reducible refine (k1 _).mono ?_; rintro e w1 ⟨rfl, hb⟩; replace HB := belowNext HB hb; clear hb k1)
    | (go_at_call 10; with_reducible refine (k2 _).mono ?_; rintro e w1 ⟨rfl, hb⟩; replace HB := belowNext HB hb; clear hb))
  go_ret2
  exact ⟨rfl, HB⟩
theorem pairV (p : Int × Int) : Value.tuple #[.int .i64 p.1, .int .i64 p.2] = .tuple #[.int .i64 p.1, .int .i64 p.2] := rfl
theorem gMul_any (a b : Int) (w : World) :
    Calls Tryd.prog 12 #[.int .i64 a, .int .i64 b] w fun e w' => e = .returned (.tuple #[.int .i64 (mulR a b).1, .int .i64 (mulR a b).2]) ∧ Below w.heap.size w w' := by
  by_cases ha : IsEl a
  · by_cases hb : IsEl b
    · obtain ⟨n, rfl, -⟩ := ha.nat
      obtain ⟨m, rfl, -⟩ := hb.nat
      rw [mulR_ok ha hb]; exact gMul_ok n m ha hb w
    · rw [mulR_bad2 hb]; exact gMul_bad2 a b ha hb w
  · rw [mulR_bad1 ha]; exact gMul_bad1 a b ha w

theorem gInv_ok (a : Nat) (ha : IsEl a) (w : World) :
    Calls Tryd.prog 15 #[.int .i64 a] w fun e w' => e = .returned (.tuple #[.int .i64 ((a ^ (oQ - 1) % 4611686018427377339 : Nat) : Int), .int .i64 0]) ∧ Below w.heap.size w w' := by
  have k1 := fun w => gCheck_ok a ha w
  have k2 := fun w => ginverse_any a (by have := ha.2.1; omega) w
  clear ha
  generalize a ^ (oQ - 1) % 4611686018427377339 = r at *
  have HB := Below.refl w.heap.size w
  go_enter Tryd.func15, Tryd.ntmps15
  go_wp2_with (first
    | (go_at_call 10; with_reducible refine (k1 _).mono ?_; rintro e w1 ⟨rfl, hb⟩; replace HB := belowNext HB hb; clear hb)
    | (go_at_call 25; with_reducible refine (k2 _).mono ?_; rintro e w1 ⟨rfl, hb⟩; replace HB := belowNext HB hb; clear hb))
  go_ret2
  exact ⟨rfl, HB⟩
theorem gInv_bad (a : Int) (ha : ¬ IsEl a) (w : World) :
    Calls Tryd.prog 15 #[.int .i64 a] w fun e w' => e = .returned (.tuple #[.int .i64 0, .int .i64 40]) ∧ Below w.heap.size w w' := by
  have k1 := fun w => gCheck_bad a ha w
  clear ha
  go_enter Tryd.func15, Tryd.ntmps15
  go_wp2_with (go_at_call 10; with_reducible refine (k1 _).mono ?_; rintro e w1 ⟨rfl, hb⟩)
  go_ret2
  exact ⟨rfl, hb⟩
theorem gInv_any (a : Int) (w : World) :
    Calls Tryd.prog 15 #[.int .i64 a] w fun e w' => e = .returned (.tuple #[.int .i64 (invR a).1, .int .i64 (invR a).2]) ∧ Below w.heap.size w w' := by
  by_cases ha : IsEl a
  · obtain ⟨n, rfl, -⟩ := ha.nat
    rw [invR_ok ha]; exact gInv_ok n ha w
  · rw [invR_bad ha]; exact gInv_bad a ha w

theorem gExp_ok (a k : Nat) (ha : IsEl a) (hk : k < 2305843009213688669) (w : World) :
    Calls Tryd.prog 14 #[.int .i64 a, .int .i64 k] w fun e w' => e = .returned (.tuple #[.int .i64 ((a ^ k % 4611686018427377339 : Nat) : Int), .int .i64 0]) ∧ Below w.heap.size w w' := by
  have k1 := fun w => gCheck_ok a ha w
  have k2 := fun w => fCheck k w
  have k3 := fun w => gpow_any a k (by have := ha.2.1; omega) (by omega) w
  rw [if_pos (scal_nat hk)] at k2
  clear ha
  generalize a ^ k % 4611686018427377339 = r at *
  have HB := Below.refl w.heap.size w
  go_enter Tryd.func14, Tryd.ntmps14
  go_wp2_with (first
    | (go_at_call 10; with_reducible refine (k1 _).mono ?_; rintro e w1 ⟨rfl, hb⟩; replace HB := belowNext HB hb; clear hb)
    | (go_at_call 23; with_reducible refine (k2 _).mono ?_; rintro e w1 ⟨rfl, hb⟩; replace HB := belowNext HB hb; clear hb)
    | (go_at_call 24; with_reducible refine (k3 _).mono ?_; rintro e w1 ⟨rfl, hb⟩; replace HB := belowNext HB hb; clear hb))
  go_ret2
  exact ⟨rfl, HB⟩
theorem gExp_bad (a k : Int) (ha : ¬ IsEl a) (w : World) :
    Calls Tryd.prog 14 #[.int .i64 a, .int .i64 k] w fun e w' => e = .returned (.tuple #[.int .i64 0, .int .i64 40]) ∧ Below w.heap.size w w' := by
  have k1 := fun w => gCheck_bad a ha w
  clear ha
  go_enter Tryd.func14, Tryd.ntmps14
  go_wp2_with (go_at_call 10; with_reducible refine (k1 _).mono ?_; rintro e w1 ⟨rfl, hb⟩)
  go_ret2
  exact ⟨rfl, hb⟩
theorem gExp_arg (a k : Int) (ha : IsEl a) (hk : scal k = false) (w : World) :
    Calls Tryd.prog 14 #[.int .i64 a, .int .i64 k] w fun e w' => e = .returned (.tuple #[.int .i64 0, .int .i64 1]) ∧ Below w.heap.size w w' := by
  have k1 := fun w => gCheck_ok a ha w
  have k2 := fun w => fCheck k w
  rw [hk] at k2
  simp only [Bool.false_eq_true, if_false] at k2
  clear ha hk
  have HB := Below.refl w.heap.size w
  go_enter Tryd.func14, Tryd.ntmps14
  go_wp2_with (first
    | (go_at_call 10; with_reducible refine (k1 _).mono ?_; rintro e w1 ⟨rfl, hb⟩; replace HB := belowNext HB hb; clear hb)
    | (go_at_call 23; with_reducible refine (k2 _).mono ?_; rintro e w1 ⟨rfl, hb⟩; replace HB := belowNext HB hb; clear hb))
  go_ret2
  exact ⟨rfl, HB⟩
theorem gExp_any (a k : Int) (w : World) :
    Calls Tryd.prog 14 #[.int .i64 a, .int .i64 k] w fun e w' => e = .returned (.tuple #[.int .i64 (expR a k).1, .int .i64 (expR a k).2]) ∧ Below w.heap.size w w' := by
  by_cases ha : IsEl a
  · by_cases hk : 0 ≤ k ∧ k < 2305843009213688669
    · obtain ⟨n, rfl, -⟩ := ha.nat
      obtain ⟨m, rfl⟩ : ∃ m : Nat, k = (m : Int) := ⟨k.toNat, by omega⟩
      rw [expR_ok ha (by omega)]; exact gExp_ok n m ha (by omega) w
    · rw [expR_arg ha hk]; exact gExp_arg a k ha (by simp [scal]; omega) w
  · rw [expR_bad ha]; exact gExp_bad a k ha w
theorem gBase_any (k : Int) (w : World) :
    Calls Tryd.prog 13 #[.int .i64 k] w fun e w' => e = .returned (.tuple #[.int .i64 (expR 4 k).1, .int .i64 (expR 4 k).2]) ∧ Below w.heap.size w w' := by
  have k1 := fun w => gExp_any 4 k w
  obtain ⟨x, hx⟩ : ∃ x, (expR 4 k).1 = x := ⟨_, rfl⟩
  obtain ⟨y, hy⟩ : ∃ y, (expR 4 k).2 = y := ⟨_, rfl⟩
  rw [hx, hy] at k1 ⊢
  clear hx hy
  go_enter Tryd.func13, Tryd.ntmps13
  go_wp2_with (go_at_call 14; with_reducible refine (k1 _).mono ?_; rintro e w1 ⟨rfl, hb⟩)
  go_ret2
  exact ⟨rfl, hb⟩
end Go.Proofs.YtmeoicfeiamkmaaDoor
