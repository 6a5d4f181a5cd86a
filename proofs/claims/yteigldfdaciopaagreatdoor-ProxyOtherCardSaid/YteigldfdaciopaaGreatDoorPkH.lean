/-
  The reference's functions of the group; the chapter's examples.
  The chapter's examples of the group.
  The remainder of a digest's number, byte after byte: the program's fold by a closure, and the reference's.
  The reference's remainder of a digest's number, its scalars and points.
-/
import Derived.Test.YteigldfdaciopaaGreatDoorPkG
import Derived.Test.YteigldfdaciopaaGreatDoorPkV
import Derived.Test.YteigldfdaciopaaGreatDoorPkB
import Derived.Test.YteigldfdaciopaaGreatDoorPkR
set_option linter.unusedVariables false
set_option linter.unusedSimpArgs false
namespace Go.Proofs.YteigldfdaciopaaGreatDoor
open Go.RowKit
set_option linter.unusedVariables false
set_option linter.unusedSimpArgs false

theorem grprodP (p q : Nat) (hp : p < 4611686018427377339) (hq : q < 4611686018427377339) (w : World) :
    Calls Tryz.prog 65 #[.int .i64 p, .int .i64 q, .int .i64 4611686018427377339] w fun e w' => e = .returned (.int .i64 ((p * q % 4611686018427377339 : Nat) : Int)) ∧ w' = w :=
  grprod_any 4611686018427377339 p q (by decide) hp (by omega) w
theorem gScalar_any (a : Int) (w : World) :
    Calls Tryz.prog 64 #[.int .i64 a] w fun e w' => e = .returned (.bool (scal a)) ∧ w' = w := by
  by_cases h : 0 ≤ a
  · have f1 : decide (0 ≤ a) = true := decide_eq_true h
    go_enter Tryz.func64, Tryz.ntmps64
    go_wp2_with fail
    go_ret
    exact ⟨by simp [scal, f1], rfl⟩
  · have f1 : decide (0 ≤ a) = false := decide_eq_false h
    go_enter Tryz.func64, Tryz.ntmps64
    go_wp2_with fail
    go_ret
    exact ⟨by simp [scal, f1], rfl⟩

theorem hCheck_any (a : Int) (w : World) :
    Calls Tryz.prog 30 #[.int .i64 a] w fun e w' => e = .returned (.int .i64 (chkR a)) ∧ w' = w := by
  by_cases h1 : a < 1
  · have f1 : decide (a < 1) = true := decide_eq_true h1
    rw [chkR_bad (fun h => by have := h.1; omega)]
    go_enter Tryz.func30, Tryz.ntmps30
    go_wp2_with fail
    go_ret
    exact ⟨rfl, rfl⟩
  · have f1 : decide (a < 1) = false := decide_eq_false h1
    by_cases h2 : 4611686018427377339 ≤ a
    · have f2 : decide (4611686018427377339 ≤ a) = true := decide_eq_true h2
      rw [chkR_bad (fun h => by have := h.2.1; omega)]
      go_enter Tryz.func30, Tryz.ntmps30
      go_wp2_with fail
      go_ret
      exact ⟨rfl, rfl⟩
    · have f2 : decide (4611686018427377339 ≤ a) = false := decide_eq_false h2
      obtain ⟨n, rfl⟩ : ∃ n : Nat, a = (n : Int) := ⟨a.toNat, by omega⟩
      have hp := grpow_any n 2305843009213688669 (by omega) (by decide)
      obtain ⟨x, hx⟩ : ∃ x, n ^ 2305843009213688669 % 4611686018427377339 = x := ⟨_, rfl⟩
      have hq : IsEl (n : Int) ↔ x = 1 := by
        unfold IsEl El oQ
        rw [Int.toNat_natCast, hx]
        exact ⟨fun h => h.2.2, fun h => ⟨by omega, by omega, h⟩⟩
      rw [hx] at hp
      clear hx
      have HP := Lib.hid hp
      clear hp
      by_cases hx : x = 1
      · rw [chkR_ok (hq.2 hx)]
        subst hx
        clear hq
        go_enter Tryz.func30, Tryz.ntmps30
        go_wp2_with (go_at_call 61; refine (HP.out _).mono ?_; rintro e w1 ⟨rfl, hw⟩; rw [hw]; clear hw w1)
        go_ret
        exact ⟨rfl, rfl⟩
      · rw [chkR_bad (fun h => hx (hq.1 h))]
        clear hq
        have f3 : ((x : Int) == 1) = false := by simp; omega
        have f4 : ((x : Int) != 1) = true := by simp; omega
        go_enter Tryz.func30, Tryz.ntmps30
        go_wp2_with (go_at_call 61; refine (HP.out _).mono ?_; rintro e w1 ⟨rfl, hw⟩; rw [hw]; clear hw w1)
        go_ret
        exact ⟨rfl, rfl⟩
theorem hCheck_ok (a : Int) (h : IsEl a) (w : World) :
    Calls Tryz.prog 30 #[.int .i64 a] w fun e w' => e = .returned (.int .i64 0) ∧ w' = w := by
  have := hCheck_any a w
  rw [chkR_ok h] at this; exact this
theorem hCheck_bad (a : Int) (h : ¬ IsEl a) (w : World) :
    Calls Tryz.prog 30 #[.int .i64 a] w fun e w' => e = .returned (.int .i64 40) ∧ w' = w := by
  have := hCheck_any a w
  rw [chkR_bad h] at this; exact this

theorem hMul_any (a b : Int) (w : World) :
    Calls Tryz.prog 34 #[.int .i64 a, .int .i64 b] w fun e w' => e = .returned (.tuple #[.int .i64 (mulR a b).1, .int .i64 (mulR a b).2]) ∧ w' = w := by
  by_cases ha : IsEl a
  · have k1 := fun w => hCheck_ok a ha w
    by_cases hb : IsEl b
    · have k2 := fun w => hCheck_ok b hb w
      obtain ⟨n, rfl, -⟩ := ha.nat
      obtain ⟨m, rfl, -⟩ := hb.nat
      rw [mulR_ok ha hb]
      have k3 := fun w => grprodP n m (by have := ha.2.1; omega) (by have := hb.2.1; omega) w
      clear ha hb
      generalize n * m % 4611686018427377339 = r at *
      go_enter Tryz.func34, Tryz.ntmps34
      go_wp2_with (first
        | (go_at_call 30; with_reducible refine (k1 _).mono ?_; rintro e w1 ⟨rfl, hw⟩; rw [hw]; clear hw w1 k1)
        | (go_at_call 30; with_reducible refine (k2 _).mono ?_; rintro e w1 ⟨rfl, hw⟩; rw [hw]; clear hw w1)
        | (go_at_call 65; with_reducible refine (k3 _).mono ?_; rintro e w1 ⟨rfl, hw⟩; rw [hw]; clear hw w1))
      go_ret2
      exact ⟨rfl, rfl⟩
    · have k2 := fun w => hCheck_bad b hb w
      rw [mulR_bad2 hb]
      clear ha hb
      go_enter Tryz.func34, Tryz.ntmps34
      go_wp2_with (first
        | (go_at_call 30; with_reducible refine (k1 _).mono ?_; rintro e w1 ⟨rfl, hw⟩; rw [hw]; clear hw w1 k1)
        | (go_at_call 30; with_reducible refine (k2 _).mono ?_; rintro e w1 ⟨rfl, hw⟩; rw [hw]; clear hw w1))
      go_ret2
      exact ⟨rfl, rfl⟩
  · have k1 := fun w => hCheck_bad a ha w
    rw [mulR_bad1 ha]
    clear ha
    go_enter Tryz.func34, Tryz.ntmps34
    go_wp2_with (go_at_call 30; with_reducible refine (k1 _).mono ?_; rintro e w1 ⟨rfl, hw⟩; rw [hw]; clear hw w1)
    go_ret2
    exact ⟨rfl, rfl⟩

theorem hInv_any (a : Int) (w : World) :
    Calls Tryz.prog 42 #[.int .i64 a] w fun e w' => e = .returned (.tuple #[.int .i64 (invR a).1, .int .i64 (invR a).2]) ∧ w' = w := by
  by_cases ha : IsEl a
  · have k1 := fun w => hCheck_ok a ha w
    obtain ⟨n, rfl, -⟩ := ha.nat
    rw [invR_ok ha]
    obtain ⟨o, ho⟩ : ∃ o, oQ - 1 = o := ⟨_, rfl⟩
    have k2 := fun w => grpow_any n 2305843009213688668 (by have := ha.2.1; omega) (by decide) w
    rw [show 2305843009213688668 = o from ho] at k2
    have e : ((o : Nat) : Int) = 2305843009213688668 := by rw [← ho]; rfl
    rw [e] at k2
    rw [ho]
    clear ho e ha
    generalize n ^ o % 4611686018427377339 = r at *
    go_enter Tryz.func42, Tryz.ntmps42
    go_wp2_with (first
      | (go_at_call 30; with_reducible refine (k1 _).mono ?_; rintro e w1 ⟨rfl, hw⟩; rw [hw]; clear hw w1 k1)
      | (go_at_call 61; with_reducible refine (k2 _).mono ?_; rintro e w1 ⟨rfl, hw⟩; rw [hw]; clear hw w1))
    go_ret2
    exact ⟨rfl, rfl⟩
  · have k1 := fun w => hCheck_bad a ha w
    rw [invR_bad ha]
    clear ha
    go_enter Tryz.func42, Tryz.ntmps42
    go_wp2_with (go_at_call 30; with_reducible refine (k1 _).mono ?_; rintro e w1 ⟨rfl, hw⟩; rw [hw]; clear hw w1)
    go_ret2
    exact ⟨rfl, rfl⟩

theorem hExp_any (a k : Int) (w : World) :
    Calls Tryz.prog 33 #[.int .i64 a, .int .i64 k] w fun e w' => e = .returned (.tuple #[.int .i64 (expR a k).1, .int .i64 (expR a k).2]) ∧ w' = w := by
  by_cases ha : IsEl a
  · have k1 := fun w => hCheck_ok a ha w
    have k2 := fun w => gScalar_any k w
    by_cases hk : 0 ≤ k ∧ k < 2305843009213688669
    · obtain ⟨n, rfl, -⟩ := ha.nat
      obtain ⟨m, rfl⟩ : ∃ m : Nat, k = (m : Int) := ⟨k.toNat, by omega⟩
      have hm : m < 2305843009213688669 := by omega
      rw [scal_nat hm] at k2
      rw [expR_ok ha hm]
      have k3 := fun w => grpow_any n m (by have := ha.2.1; omega) (by omega) w
      clear ha hk
      generalize n ^ m % 4611686018427377339 = r at *
      go_enter Tryz.func33, Tryz.ntmps33
      go_wp2_with (first
        | (go_at_call 30; with_reducible refine (k1 _).mono ?_; rintro e w1 ⟨rfl, hw⟩; rw [hw]; clear hw w1 k1)
        | (go_at_call 64; with_reducible refine (k2 _).mono ?_; rintro e w1 ⟨rfl, hw⟩; rw [hw]; clear hw w1)
        | (go_at_call 61; with_reducible refine (k3 _).mono ?_; rintro e w1 ⟨rfl, hw⟩; rw [hw]; clear hw w1))
      go_ret2
      exact ⟨rfl, rfl⟩
    · rw [expR_arg ha hk]
      rw [show scal k = false by simp [scal]; omega] at k2
      clear ha hk
      go_enter Tryz.func33, Tryz.ntmps33
      go_wp2_with (first
        | (go_at_call 30; with_reducible refine (k1 _).mono ?_; rintro e w1 ⟨rfl, hw⟩; rw [hw]; clear hw w1 k1)
        | (go_at_call 64; with_reducible refine (k2 _).mono ?_; rintro e w1 ⟨rfl, hw⟩; rw [hw]; clear hw w1))
      go_ret2
      exact ⟨rfl, rfl⟩
  · have k1 := fun w => hCheck_bad a ha w
    rw [expR_bad ha]
    clear ha
    go_enter Tryz.func33, Tryz.ntmps33
    go_wp2_with (go_at_call 30; with_reducible refine (k1 _).mono ?_; rintro e w1 ⟨rfl, hw⟩; rw [hw]; clear hw w1)
    go_ret2
    exact ⟨rfl, rfl⟩
theorem hBase_any (k : Int) (w : World) :
    Calls Tryz.prog 32 #[.int .i64 k] w fun e w' => e = .returned (.tuple #[.int .i64 (expR 4 k).1, .int .i64 (expR 4 k).2]) ∧ w' = w := by
  have k1 := fun w => hExp_any 4 k w
  obtain ⟨x, hx⟩ : ∃ x, (expR 4 k).1 = x := ⟨_, rfl⟩
  obtain ⟨y, hy⟩ : ∃ y, (expR 4 k).2 = y := ⟨_, rfl⟩
  rw [hx, hy] at k1 ⊢
  clear hx hy
  go_enter Tryz.func32, Tryz.ntmps32
  go_wp2_with (go_at_call 33; with_reducible refine (k1 _).mono ?_; rintro e w1 ⟨rfl, hw⟩; rw [hw]; clear hw w1)
  go_ret2
  exact ⟨rfl, rfl⟩
end Go.Proofs.YteigldfdaciopaaGreatDoor

namespace Go.Proofs.YteigldfdaciopaaGreatDoor
open Go.RowKit
set_option linter.unusedVariables false
set_option linter.unusedSimpArgs false

theorem el1 : IsEl 1 := isEl_of (n := 1) (by decide) El.one
theorem el4 : IsEl 4 := isEl_of (n := 4) (by decide) (El.sq (a := 2) (by decide))
theorem el16 : IsEl 16 := isEl_of (n := 16) (by decide) (El.sq (a := 4) (by decide))
theorem no2 : ¬ IsEl 2 := fun h => by
  have h1 : El 2 := h.2.2
  unfold El at h1
  rw [← powB_eq 4611686018427377339 64 2 oQ (by decide)] at h1
  revert h1
  decide +kernel
theorem noM : ¬ IsEl 4611686018427377338 := fun h => (El.half (a := 1) (by decide) (by decide)).1 h.2.2 El.one
def badL : List Int := [0, 4611686018427377339, 4611686018427377338, 2, -4, 4611686018427387904]
theorem badL_no : ∀ k, k < 6 → ¬ IsEl (badL.getD k 0)
  | 0, _ => fun h => absurd h.1 (by decide)
  | 1, _ => fun h => absurd h.2.1 (by decide)
  | 2, _ => noM
  | 3, _ => no2
  | 4, _ => fun h => absurd h.1 (by decide)
  | 5, _ => fun h => absurd h.2.1 (by decide)
theorem inv4 : 4 ^ (oQ - 1) % 4611686018427377339 = 1152921504606844335 := by
  rw [← powB_eq 4611686018427377339 64 4 (oQ - 1) (by decide)]
  decide +kernel
theorem x0 (w : World) : Calls Tryz.prog 50 #[.int .i64 4, .int .i64 4] w fun e w' => e = .returned (.tuple #[.int .i64 16, .int .i64 0]) ∧ Below w.heap.size w w' := gMul_ok 4 4 el4 el4 w
theorem x1 (w : World) : Calls Tryz.prog 18 #[.int .i64 3] w fun e w' => e = .returned (.tuple #[.int .i64 64, .int .i64 0]) ∧ Below w.heap.size w w' := by
  have h := gBase_any 3 w
  have e : expR 4 3 = (64, 0) := expR_ok (a := 4) (k := 3) el4 (by decide)
  rw [e] at h; exact h
theorem x2 (w : World) : Calls Tryz.prog 29 #[.int .i64 4, .int .i64 (-1)] w fun e w' => e = .returned (.tuple #[.int .i64 0, .int .i64 1]) ∧ Below w.heap.size w w' := gExp_arg 4 (-1) el4 (by decide) w
theorem x3 (w : World) : Calls Tryz.prog 29 #[.int .i64 4, .int .i64 2305843009213688669] w fun e w' => e = .returned (.tuple #[.int .i64 0, .int .i64 1]) ∧ Below w.heap.size w w' := gExp_arg 4 2305843009213688669 el4 (by decide) w
theorem x4 (w : World) : Calls Tryz.prog 49 #[.int .i64 1] w fun e w' => e = .returned (.tuple #[.int .i64 1, .int .i64 0]) ∧ Below w.heap.size w w' := by
  have h := gInv_ok 1 el1 w
  rw [Nat.one_pow] at h; exact h
theorem x5 (w : World) : Calls Tryz.prog 49 #[.int .i64 4] w fun e w' => e = .returned (.tuple #[.int .i64 1152921504606844335, .int .i64 0]) ∧ Below w.heap.size w w' := by
  have h := gInv_ok 4 el4 w
  rw [inv4] at h; exact h
theorem x6 (w : World) : Calls Tryz.prog 29 #[.int .i64 16, .int .i64 0] w fun e w' => e = .returned (.tuple #[.int .i64 1, .int .i64 0]) ∧ Below w.heap.size w w' := gExp_ok 16 0 el16 (by decide) w
theorem x7 (w : World) : Calls Tryz.prog 24 #[.int .i64 1] w fun e w' => e = .returned (.int .i64 0) ∧ Below w.heap.size w w' := gCheck_ok 1 el1 w
theorem x8 (w : World) : Calls Tryz.prog 24 #[.int .i64 4] w fun e w' => e = .returned (.int .i64 0) ∧ Below w.heap.size w w' := gCheck_ok 4 el4 w
theorem x9 (w : World) : Calls Tryz.prog 24 #[.int .i64 16] w fun e w' => e = .returned (.int .i64 0) ∧ Below w.heap.size w w' := gCheck_ok 16 el16 w

end Go.Proofs.YteigldfdaciopaaGreatDoor

namespace Go.Proofs.YteigldfdaciopaaGreatDoor
open Go.RowKit
set_option linter.unusedVariables false
set_option linter.unusedSimpArgs false

/-- The two numbers that a digest is divided by. -/
def okM (m : Nat) : Prop := m = 4611686018427377336 ∨ m = 2305843009213688668
theorem okM.lt {m : Nat} (h : okM m) : 1000 < m ∧ m < 4611686018427387904 := by rcases h with rfl | rfl <;> decide

theorem rem64M_any (m : Nat) (hm : okM m) (hi lo : Nat) (hhi : hi < m) (hlo : lo < 18446744073709551616) (w : World) :
    Calls Tryz.prog 93 #[.int .u64 hi, .int .u64 lo, .int .u64 m] w fun e w' => e = .returned (.int .u64 (((hi * 18446744073709551616 + lo) % m : Nat) : Int)) ∧ ∃ k, w' = w.drewN k := by
  have HD : Hid (∀ w, Calls Tryz.prog 90 #[.int .u64 hi, .int .u64 lo, .int .u64 m] w fun e w' => (∃ q : Int, e = .returned (.tuple #[.int .u64 q, .int .u64 (((hi * 18446744073709551616 + lo) % m : Nat) : Int)])) ∧ ∃ k, w' = w.drewN k) := Lib.hid fun w => by
    rcases hm with rfl | rfl
    · by_cases h0 : hi = 0
      · subst h0
        rw [Nat.zero_mul, Nat.zero_add]
        exact R.div64_zero lo hlo w
      · refine (R.div64_pos hi lo (by omega) hhi hlo w).mono ?_
        rintro e w' ⟨h, rfl⟩
        exact ⟨h, 0, rfl⟩
    · by_cases h0 : hi = 0
      · subst h0
        rw [Nat.zero_mul, Nat.zero_add]
        exact T.div64_zero lo hlo w
      · refine (T.div64_pos hi lo (by omega) hhi hlo w).mono ?_
        rintro e w' ⟨h, rfl⟩
        exact ⟨h, 0, rfl⟩
  have hl := hm.lt
  have c2 : (hi : Int).tmod m = (hi : Int) := by rw [Int.tmod_eq_emod_of_nonneg (by omega)]; exact Int.emod_eq_of_lt (by omega) (by omega)
  have c1 : IntKind.u64.wrap ((hi : Int).tmod m) = (hi : Int) := by rw [c2, wrapU _ (by omega) (by omega)]
  have c3 : ((m : Int) == 0) = false := by simp; omega
  generalize (hi * 18446744073709551616 + lo) % m = r at *
  go_enter Tryz.func93, Tryz.ntmps93
  go_wp2_with (go_at_call 90; refine (HD.out _).mono ?_; rintro e w' ⟨⟨q, rfl⟩, k, hw⟩; rw [hw]; clear hw w')
  go_ret
  exact ⟨rfl, _, rfl⟩

theorem orLow (c b : Nat) (hc : c < 72057594037927936) (hb : b < 256) : bits .or .u64 ((c : Int) * 256) (b : Int) = ((c * 256 + b : Nat) : Int) := by
  have e1 : (c : Int) * 256 = ((c * 256 : Nat) : Int) := by omega
  rw [e1, bits_or_u64_nat _ _ (by omega) (by omega)]
  congr 1
  have := Nat.two_pow_add_eq_or_of_lt (i := 8) (b := b) (by omega) c
  rw [Nat.mul_comm c 256]; exact this.symm

theorem fold_num (c b : Nat) : c / 72057594037927936 * 18446744073709551616 + (c * 256 % 18446744073709551616 + b) = 256 * c + b := by omega

set_option maxHeartbeats 400000 in
theorem fold_any (m : Nat) (hm : okM m) (c : Nat) (b : UInt8) (hc : c < m) (Ba Bm : Nat) (w : World) (ha : Boxed w Ba 84 (.int .u64 c)) (hmb : Boxed w Bm 84 (.int .u64 m)) :
    Calls Tryz.prog 98 #[.int .u8 (b.toNat : Int), .pointer (some ⟨Ba, 0, none⟩), .pointer (some ⟨Bm, 0, none⟩)] w fun e w' => e = .returned (.tuple #[]) ∧ ∃ k, w' = (w.drewN k).setCell ⟨Ba, 0, none⟩ (.int .u64 (((256 * c + b.toNat) % m : Nat) : Int)) := by
  have hl := hm.lt
  have hb : b.toNat < 256 := b.toNat_lt
  have hh : c / 72057594037927936 < m := by omega
  have hlo : c * 256 % 18446744073709551616 + b.toNat < 18446744073709551616 := by omega
  have HD := Lib.hid (fun w => rem64M_any m hm _ _ hh hlo w)
  rw [fold_num] at HD
  have k1 := ha.cell
  have k2 := hmb.cell
  have k3 := ha.frozen
  have c1 := wrapU (b.toNat : Int) (by omega) (by omega)
  have HE1 : Hid ((c : Int) / 72057594037927936 = ((c / 72057594037927936 : Nat) : Int)) := Lib.hid (by omega)
  have HE2 : Hid (bits .or .u64 (IntKind.u64.wrap ((c : Int) * 256)) (b.toNat : Int) = ((c * 256 % 18446744073709551616 + b.toNat : Nat) : Int)) := Lib.hid (by
    have o1 := orLow (c * 256 % 18446744073709551616 / 256) b.toNat (by omega) hb
    have e1 : ((c * 256 % 18446744073709551616 / 256 : Nat) : Int) * 256 = IntKind.u64.wrap ((c : Int) * 256) := by rw [IntKind.wrap_u64]; omega
    have e2 : c * 256 % 18446744073709551616 / 256 * 256 = c * 256 % 18446744073709551616 := by omega
    rw [e1, e2] at o1
    exact o1)
  generalize (256 * c + b.toNat) % m = r at *
  generalize b.toNat = b at *
  go_enter Tryz.func98, Tryz.ntmps98
  go_wp2_with (go_at_call 93; rw [HE1.out, HE2.out]; refine (HD.out _).mono ?_; rintro e w' ⟨rfl, k, hw⟩; rw [hw]; clear hw w')
  go_end0
  exact ⟨rfl, _, rfl⟩

theorem byte_size (w : World) : (sizeOf 5).run Tryz.prog w = .ok 1 w := by kernel_rfl
theorem asInt_k (k : Nat) (w : World) : (asIntOf (.int .i64 (k : Int))).run Tryz.prog w = .ok (.i64, (k : Int)) w := rfl
/-- A digest's byte. -/
theorem idx_dig {xs : List Value} {k : Nat} {v : Value} (hk : k < 32) (hv : xs[k]? = some v) (w : World) :
    (Instr.index 69 (.agg xs.toArray) (.int .i64 (k : Int))).run Tryz.prog w = .ok v w := by
  have hp := run_part_plain (P := Tryz.prog) (e := 5) (by kernel_rfl) (xs := xs.toArray) (off := k) (v := v) (by simpa using hv) (w := w)
  have hu := run_underlying digest_und w
  have h1 : (0 : Int) ≤ (k : Int) ∧ (k : Int) < ((32 : Nat) : Int) := ⟨by omega, by omega⟩
  unfold Instr.index
  simp only [Sem.run_bind, asInt_k, Result.andThen, hu]
  rw [if_pos h1]
  simp only [Sem.run_bind, byte_size, Result.andThen, Nat.mul_one, Int.toNat_natCast]
  exact hp

theorem restD_take {m : Nat} {x : List UInt8} {k : Nat} (hk : k < x.length) : restD m (x.take (k + 1)) = (256 * restD m (x.take k) + (x.getD k 0).toNat) % m := by
  rw [List.take_add_one, List.getElem?_eq_getElem hk]
  simp only [restD, Option.toList_some, List.foldl_append, List.foldl_cons, List.foldl_nil]
  congr 3
  simp [hk]
theorem restD_lt {m : Nat} (hm : 0 < m) (x : List UInt8) : restD m x < m := by rw [restD_eq]; exact Nat.mod_lt _ hm

set_option maxRecDepth 100000 in
set_option maxHeartbeats 2000000 in
theorem remainder_any (m : Nat) (hm : okM m) (x : List UInt8) (hx : x.length = 32) (w : World) :
    Calls Tryz.prog 82 #[.agg (bvA x), .int .u64 m] w fun e w' => e = .returned (.int .i64 (restD m x : Nat)) ∧ Below w.heap.size w w' := by
  have hl := hm.lt
  have HI : Hid ((Tryz.prog.info? 69).map (·.size) = some (x.map bv).length) := by show _ = _; rw [List.length_map, hx]; exact sha_size
  obtain ⟨W3, hW3⟩ : ∃ W3, W3 = ((w.alloc (Obj.cells (bvA x) 69)).alloc (Obj.cells #[Value.int IntKind.u64 m] 84)).alloc (Obj.cells #[Value.int IntKind.u64 0] 84) := ⟨_, rfl⟩
  have hB : Below w.heap.size w W3 := hW3 ▸ (((Below.refl _ _).alloc (Nat.le_refl _) _).alloc (by simp) _).alloc (by simp; omega) _
  have hm1 : Boxed W3 (w.heap.size + 1) 84 (.int .u64 m) := by
    rw [hW3]
    have h := (Boxed.new (w.alloc (Obj.cells (bvA x) 69)) 84 (.int .u64 m)).alloc (Obj.cells #[Value.int IntKind.u64 0] 84)
    rwa [World.size_alloc] at h
  have hr1 : Boxed W3 (w.heap.size + 1 + 1) 84 (.int .u64 0) := by
    rw [hW3]
    have h := Boxed.new ((w.alloc (Obj.cells (bvA x) 69)).alloc (Obj.cells #[Value.int IntKind.u64 m] 84)) 84 (.int .u64 0)
    rwa [World.size_alloc, World.size_alloc] at h
  have HR : Hid (W3.rangeAt w.heap.size 0 (x.map bv)) := Lib.hid (by
    have h : W3.heap[w.heap.size]? = some (.cells (bvA x) 69 (0, 0)) := by
      rw [hW3]
      exact (((Below.refl _ (w.alloc (Obj.cells (bvA x) 69))).alloc (Nat.le_refl _) _).alloc (by simp) _).block _ (by simp) |>.trans (World.alloc_heap_new w _)
    intro i v hv
    rw [Nat.zero_add, cell_of_row _ _ _ _ _ _ h]
    simpa [bvA] using hv)
  have HW3 := Lib.hid hW3
  have hsz : w.heap.size + 1 + 1 + 1 = W3.heap.size := by rw [hW3]; simp
  clear hW3
  go_enter Tryz.func82, Tryz.ntmps82
  go_wp2_with (rw [← HW3.out]; refine wpList_load_mid rfl 69 (.tmp 2) rfl w.heap.size 0 rfl (x.map bv) _ HR.out digest_und rfl HI.out ?_)
  clear HR HI HW3
  have hmp : 0 < m := by omega
  go_loopw [11] (fun i wr => ∃ k : Nat, i = .int .i64 k ∧ k ≤ 32 ∧ Boxed wr (w.heap.size + 1) 84 (.int .u64 m) ∧ Boxed wr (w.heap.size + 1 + 1) 84 (.int .u64 (restD m (x.take k) : Nat)) ∧ Below w.heap.size w wr) (fun i _ => 32 - (intOf i).toNat)
  case atStart => exact ⟨0, rfl, by omega, hm1, hr1, hB⟩
  case round =>
    obtain ⟨k, rfl, hk, hbm, hbr, hb⟩ := hrel
    clear hm1 hr1 hB hsz
    have hlt1 := restD_lt hmp (x.take k)
    by_cases hlt : k < 32
    · have f1 : decide ((k : Int) < 32) = true := decide_eq_true (by omega)
      have HS := Lib.hid (restD_take (m := m) (x := x) (k := k) (by omega))
      have hkx : k < x.length := by omega
      have hg : (x.map bv).toArray[k]? = some (.int .u8 ((x.getD k 0).toNat : Int)) := by simp [hkx, bv]
      have hg2 : (x.map bv)[k]? = some (.int .u8 ((x.getD k 0).toNat : Int)) := by simp [hkx, bv]
      have HF := Lib.hid (fun w' => fold_any m hm (restD m (x.take k)) (x.getD k 0) hlt1 (w.heap.size + 1 + 1) (w.heap.size + 1) w')
      rw [← HS.out] at HF
      clear HS
      generalize x.getD k 0 = c at *
      generalize restD m (x.take k) = r at *
      obtain ⟨r2, hr2⟩ : ∃ r2, restD m (x.take (k + 1)) = r2 := ⟨_, rfl⟩
      rw [hr2] at HF
      have HR2 := Lib.hid hr2
      clear hr2
      have HIX := Lib.hid (fun W => idx_dig hlt hg2 W)
      clear hg hg2
      generalize x.map bv = xs at *
      have hix := fun W => HIX.out W
      clear HIX
      go_wp2_with (go_at_call 98; refine (HF.out _ hbr hbm).mono ?_; rintro e w9 ⟨rfl, n, hw⟩; rw [hw]; clear hw w9)
      go_roundw
      case rel => exact ⟨k + 1, by go_num, hlt, box_other (box_drew hbm _) _ (by omega), by rw [HR2.out]; exact (box_drew hbr _).set _, (below_drewN hb _).setCell (p := ⟨w.heap.size + 1 + 1, 0, none⟩) (by simp; omega) _⟩
      case measure => simp [intOf]; omega
    · obtain rfl : k = 32 := by omega
      have e : x.take 32 = x := by rw [← hx]; exact List.take_length
      rw [e] at hbr hlt1
      have k1 := hbr.cell
      have c1 := wrapI ((restD m x : Nat) : Int) (by omega) (by omega)
      clear e
      obtain ⟨r, hr⟩ : ∃ r, restD m x = r := ⟨_, rfl⟩
      rw [hr] at k1 c1 hlt1
      have HR2 := Lib.hid hr
      clear hr hbr
      go_wp2_with fail
      go_ret
      exact ⟨by rw [HR2.out]; first | rfl | simp [c1], hb⟩

theorem scalS_eq (x : List UInt8) : 1 + restD 2305843009213688668 x = scalS x := by rw [restD_eq]; rfl
theorem ptX_eq (x : List UInt8) : 2 + restD 4611686018427377336 x = ptX x := by rw [restD_eq]; rfl
theorem tagS_len32 (a b : List UInt8) : (tagS a b).length = 32 := tagS_len a b

theorem gScalar (s : ByteArray) (a : Option Addr) (cap : Nat) (l : List UInt8) (w : World) (hT : Tab w) (hl : RdB w.heap.size w a l) (hcap : l.length ≤ cap) (hc2 : cap ≤ maxLen) (hs : s.size ≤ 1152921504606846000) (hn : l.length ≤ 1152921504606840000) :
    Calls Tryz.prog 54 #[.string s, .slice a l.length cap] w fun e w' => e = .returned (.int .i64 (scalS (tagS s.data.toList l) : Nat)) ∧ Below w.heap.size w w' := by
  have HT := Lib.hid (Tagged_any s a cap l w hT hl hcap hc2 hs hn)
  have hx := tagS_len32 s.data.toList l
  have hb := scalS_bd (tagS s.data.toList l)
  have HR : Hid (∀ w, Calls Tryz.prog 82 #[.agg (bvA (tagS s.data.toList l)), .int .u64 2305843009213688668] w fun e w' => e = .returned (.int .i64 (restD 2305843009213688668 (tagS s.data.toList l) : Nat)) ∧ Below w.heap.size w w') := Lib.hid fun w => remainder_any 2305843009213688668 (.inr rfl) _ hx w
  have he := scalS_eq (tagS s.data.toList l)
  generalize tagS s.data.toList l = x at *
  generalize restD 2305843009213688668 x = r at *
  generalize scalS x = y at *
  have c1 := wrapI (1 + (r : Int)) (by omega) (by omega)
  have HE : Hid (1 + (r : Int) = (y : Int)) := Lib.hid (by omega)
  clear he hT hl
  go_enter Tryz.func54, Tryz.ntmps54
  go_wp2_with (first
    | (go_at_call 83; refine HT.out.mono ?_; rintro e w1 ⟨rfl, hb1⟩)
    | (go_at_call 82; refine (HR.out _).mono ?_; rintro e w2 ⟨rfl, hb2⟩))
  go_ret
  exact ⟨by rw [← HE.out]; rfl, belowNext hb1 hb2⟩

end Go.Proofs.YteigldfdaciopaaGreatDoor

namespace Go.Proofs.YteigldfdaciopaaGreatDoor
open Go.RowKit
set_option linter.unusedVariables false
set_option linter.unusedSimpArgs false

theorem rest_step (m n b : Nat) : (256 * n % m + b) % m = (256 * n + b) % m := by rw [Nat.add_mod, Nat.mod_mod, ← Nat.add_mod]

set_option maxRecDepth 100000 in
set_option maxHeartbeats 2000000 in
theorem rest_any (m : Nat) (hm : okM m) (x : List UInt8) (hx : x.length = 32) (w : World) :
    Calls Tryz.prog 86 #[.agg (bvA x), .int .i64 m] w fun e w' => e = .returned (.int .i64 (restD m x : Nat)) ∧ Below w.heap.size w w' := by
  have hl := hm.lt
  have hB : Below w.heap.size w (w.alloc (.cells (bvA x) 69)) := (Below.refl _ _).alloc (Nat.le_refl _) _
  have hrow : (w.alloc (.cells (bvA x) 69)).heap[w.heap.size]? = some (.cells (bvA x) 69 (0, 0)) := World.alloc_heap_new w _
  have hmp : 0 < m := by omega
  go_enter Tryz.func86, Tryz.ntmps86
  go_wp2_with fail
  go_loopw [5, 6] (fun y i wr => ∃ k : Nat, y = .int .i64 (restD m (x.take k) : Nat) ∧ i = .int .i64 k ∧ k ≤ 32 ∧ ∃ n, wr = (w.alloc (.cells (bvA x) 69)).drewN n) (fun _ i _ => 32 - (intOf i).toNat)
  case atStart => exact ⟨0, rfl, rfl, by omega, 0, rfl⟩
  case round =>
    obtain ⟨k, rfl, rfl, hk, hwr⟩ := hrel
    have HK := Lib.hid hwr
    clear hwr
    have hlt1 := restD_lt hmp (x.take k)
    by_cases hlt : k < 32
    · have f1 : decide ((k : Int) < 32) = true := decide_eq_true (by omega)
      have f2 : decide (k < 32) = true := decide_eq_true hlt
      have HS := restD_take (m := m) (x := x) (k := k) (by omega)
      have hkx : k < x.length := by omega
      have hc : (w.alloc (.cells (bvA x) 69)).cell? ⟨w.heap.size, k, none⟩ = some (.int .u8 ((x.getD k 0).toNat : Int)) := by
        rw [cell_of_row _ _ _ _ _ _ hrow]; simp [bvA, hkx, bv]
      rw [← rest_step] at HS
      have HP : Hid (∀ w', Calls Tryz.prog 65 #[.int .i64 256, .int .i64 (restD m (x.take k) : Nat), .int .i64 m] w' fun e w'' => e = .returned (.int .i64 ((256 * restD m (x.take k) % m : Nat) : Int)) ∧ w'' = w') := Lib.hid (fun w' => grprod_any m 256 (restD m (x.take k)) (by omega) (by omega) (by omega) w')
      have hc' : wr.cell? ⟨w.heap.size, k, none⟩ = some (.int .u8 ((x.getD k 0).toNat : Int)) := by obtain ⟨n, rfl⟩ := HK.out; exact hc
      have hpl : 256 * restD m (x.take k) % m < m := Nat.mod_lt _ hmp
      have hcb : (x.getD k 0).toNat < 256 := UInt8.toNat_lt _
      generalize (x.getD k 0).toNat = c at *
      generalize 256 * restD m (x.take k) % m = p at *
      obtain ⟨r2, hr2⟩ : ∃ r2, restD m (x.take (k + 1)) = r2 := ⟨_, rfl⟩
      have HR2 := Lib.hid hr2
      rw [hr2] at HS
      clear hr2
      generalize restD m (x.take k) = r at *
      have c1 := wrapI (c : Int) (by omega) (by omega)
      have c2 := wrapI ((p : Int) + c) (by omega) (by omega)
      have c3 : ((p : Int) + c).tmod m = ((r2 : Nat) : Int) := by
        rw [Int.tmod_eq_emod_of_nonneg (by omega), HS, Int.natCast_emod, Int.natCast_add]
      have c4 := wrapI (r2 : Int) (by have : r2 < m := by rw [HS]; exact Nat.mod_lt _ hmp
                                      omega) (by have : r2 < m := by rw [HS]; exact Nat.mod_lt _ hmp
                                                 omega)
      have c5 : ((m : Int) == 0) = false := by simp; omega
      clear HS
      go_wp2_with fail
      go_quiet (first
        | (go_at_call 65; exact Calls.quiet_of_same (HP.out _)))
      go_wp2_with fail
      go_roundw
      case rel => exact ⟨k + 1, by rw [HR2.out], by go_num, hlt, by obtain ⟨n, rfl⟩ := HK.out; exact ⟨n + nq, by rw [World.drewN_drewN]⟩⟩
      case measure => simp [intOf]; omega
    · obtain rfl : k = 32 := by omega
      have e : x.take 32 = x := by rw [← hx]; exact List.take_length
      rw [e]
      have f1 : decide (((32 : Nat) : Int) < 32) = false := by decide
      obtain ⟨r, hr⟩ : ∃ r, restD m x = r := ⟨_, rfl⟩
      rw [hr]
      have HR2 := Lib.hid hr
      clear hr
      go_wp2_with fail
      go_ret
      exact ⟨by rw [HR2.out]; rfl, by obtain ⟨n, rfl⟩ := HK.out; exact below_drewN hB n⟩
end Go.Proofs.YteigldfdaciopaaGreatDoor
