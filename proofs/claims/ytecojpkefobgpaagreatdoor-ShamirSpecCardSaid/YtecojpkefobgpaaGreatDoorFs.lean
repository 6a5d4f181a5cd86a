/-
  The reference's Eval; the chapter's examples.
-/
import Derived.Test.YtecojpkefobgpaaGreatDoorPkF
namespace Go.Proofs.YtecojpkefobgpaaGreatDoor
open Go.RowKit
set_option linter.unusedVariables false
set_option linter.unusedSimpArgs false

set_option maxHeartbeats 800000 in
theorem rEval_any (a : Option Addr) (cap : Nat) (l : List Int) (x : Nat) (hx : x < 2305843009213688669) (w : World) (hl : RdI w a l) :
    Calls Tryz.prog 23 #[.slice a l.length cap, .int .i64 x] w fun e w' => e = .returned (if l.all scal then .tuple #[.int .i64 (evQ x l : Nat), .int .i64 0] else .tuple #[.int .i64 0, .int .i64 1]) ∧ w' = w := by
  obtain ⟨G, hG⟩ : ∃ G : Value, (if l.all scal = true then Value.tuple #[.int .i64 (evQ x l : Nat), .int .i64 0] else .tuple #[.int .i64 0, .int .i64 1]) = G := ⟨_, rfl⟩
  rw [hG]
  have HG := Lib.hid hG
  clear hG
  have hm := hl.1
  unfold maxLen at hm
  have s0 := scal_nat hx
  have HL := Lib.hid hl
  clear hl
  go_enter Tryz.func23, Tryz.ntmps23
  go_wp2_with (go_at_call 36; refine (scalar_any _ _).mono ?_; rintro e w' ⟨rfl, hw⟩; rw [hw]; clear hw w')
  go_loopw [6, 7, 8] (fun y p i wr => ∃ j yn pn : Nat, j ≤ l.length ∧ y = .int .i64 yn ∧ p = .int .i64 pn ∧ i = .int .i64 j ∧ yn < 2305843009213688669 ∧ pn < 2305843009213688669 ∧ Hid (∀ t, t < j → scal (l.getD t 0) = true) ∧ Hid ((yn + pn * evQ x (l.drop j)) % 2305843009213688669 = evQ x l) ∧ wr = w) (fun _ _ i _ => l.length - (intOf i).toNat)
  case atStart => exact ⟨0, 0, 1, Nat.zero_le _, rfl, rfl, rfl, by decide, by decide, Lib.hid (fun t h => absurd h (Nat.not_lt_zero _)), Lib.hid (by rw [Nat.zero_add, Nat.one_mul, List.drop_zero, Nat.mod_eq_of_lt (evQ_lt _ _)]), rfl⟩
  case round =>
    obtain ⟨j, y, p, hj, rfl, rfl, rfl, hy, hp, hs, hv, hw⟩ := hrel
    subst hw
    by_cases hlt : j < l.length
    · have f1 : decide ((j : Int) < (l.length : Int)) = true := decide_eq_true (by omega)
      obtain ⟨q, ha, hc⟩ : ∃ q, a = some q ∧ wr.cell? (q.add j) = some (.int .i64 (l.getD j 0)) := by
        rcases HL.out.2 with h | ⟨q, ha, hq⟩
        · subst h; exact absurd hlt (Nat.not_lt_zero _)
        · exact ⟨q, ha, by rw [hq j hlt]; simp [hlt]⟩
      subst ha
      by_cases h1 : scal (l.getD j 0) = true
      · have hsc := scal_of h1
        obtain ⟨c, hcd⟩ : ∃ c : Nat, l.getD j 0 = (c : Int) := ⟨(l.getD j 0).toNat, by omega⟩
        have hd : evQ x (l.drop j) = (evQ x (l.drop (j + 1)) * x % 2305843009213688669 + c) % 2305843009213688669 := by
          have e : l.getD j 0 = l[j] := by simp [hlt]
          rw [List.drop_eq_getElem_cons hlt, evQ_cons, ← e, hcd, Int.toNat_natCast]
        have HV : Hid (((y + c * p % 2305843009213688669) % 2305843009213688669 + p * x % 2305843009213688669 * evQ x (l.drop (j + 1))) % 2305843009213688669 = evQ x l) := Lib.hid (by rw [ev_step, ← hd]; exact hv.out)
        have hs' : Hid (∀ t, t < j + 1 → scal (l.getD t 0) = true) := Lib.hid (fun t ht => by
          by_cases e : t = j
          · rw [e]; exact h1
          · exact hs.out t (by omega))
        rw [hcd] at hc hsc
        have hcl : c < 2305843009213688669 := by omega
        have sc := scal_nat hcl
        clear hcd hsc hd hv hs h1
        obtain ⟨m1, hm1⟩ : ∃ m, c * p % 2305843009213688669 = m := ⟨_, rfl⟩
        obtain ⟨m2, hm2⟩ : ∃ m, p * x % 2305843009213688669 = m := ⟨_, rfl⟩
        obtain ⟨m3, hm3⟩ : ∃ m, (y + m1) % 2305843009213688669 = m := ⟨_, rfl⟩
        have l1 : m1 < 2305843009213688669 := by rw [← hm1]; exact Nat.mod_lt _ (by decide)
        have l2 : m2 < 2305843009213688669 := by rw [← hm2]; exact Nat.mod_lt _ (by decide)
        have l3 : m3 < 2305843009213688669 := by rw [← hm3]; exact Nat.mod_lt _ (by decide)
        have k1 := fun w => rproduct_any c p hcl hp w
        have k2 := fun w => rproduct_any p x hp hx w
        have k3 := fun w => rsum_any y m1 hy (Nat.le_of_lt l1) w
        simp only [hm1] at k1
        simp only [hm2] at k2
        simp only [hm3] at k3
        rw [hm1, hm2, hm3] at HV
        clear hm1 hm2 hm3
        go_wp2_with (first
          | (go_at_call 36; refine (scalar_any _ _).mono ?_; rintro e w' ⟨rfl, hw⟩; rw [hw]; clear hw w')
          | (go_at_call 38; with_reducible refine (k1 _).mono ?_; rintro e w' ⟨rfl, hw⟩; rw [hw]; clear hw w')
          | (go_at_call 38; with_reducible refine (k2 _).mono ?_; rintro e w' ⟨rfl, hw⟩; rw [hw]; clear hw w')
          | (go_at_call 37; with_reducible refine (k3 _).mono ?_; rintro e w' ⟨rfl, hw⟩; rw [hw]; clear hw w'))
        go_roundw
        case rel => exact ⟨j + 1, m3, m2, by omega, rfl, rfl, by go_num, l3, l2, hs', HV, trivial⟩
        case measure => simp [intOf]; omega
      · have sc : scal (l.getD j 0) = false := by simpa using h1
        have e : G = .tuple #[.int .i64 0, .int .i64 1] := by rw [← HG.out, not_all_scal hlt sc]; rfl
        subst e
        clear hv hs h1 HL HG
        generalize l.getD j 0 = v at *
        go_wp2_with (go_at_call 36; refine (scalar_any _ _).mono ?_; rintro e w' ⟨rfl, hw⟩; rw [hw]; clear hw w')
        go_ret2
        exact ⟨rfl, rfl⟩
    · obtain rfl : j = l.length := by omega
      have e : G = .tuple #[.int .i64 (y : Nat), .int .i64 0] := by
        have h2 := hv.out
        rw [List.drop_length, show evQ x [] = 0 from rfl, Nat.mul_zero, Nat.add_zero, Nat.mod_eq_of_lt hy] at h2
        rw [← HG.out, all_scal hs.out, h2]; rfl
      subst e
      clear hv hs HL HG
      go_wp2_with fail
      go_ret2
      exact ⟨rfl, rfl⟩
theorem rEval_bad (a : Option Addr) (cap n : Nat) (x : Int) (hx : scal x = false) (w : World) :
    Calls Tryz.prog 23 #[.slice a n cap, .int .i64 x] w fun e w' => e = .returned (.tuple #[.int .i64 0, .int .i64 1]) ∧ w' = w := by
  go_enter Tryz.func23, Tryz.ntmps23
  go_wp2_with (go_at_call 36; refine (scalar_any _ _).mono ?_; rintro e w' ⟨rfl, hw⟩; rw [hw]; clear hw w')
  go_ret2
  exact ⟨rfl, rfl⟩

theorem pow2inv : 2 ^ (kQ - 1) % 2305843009213688669 = 1152921504606844335 := by
  rw [← powB_eq 2305843009213688669 64 2 (kQ - 1) (by unfold kQ; omega)]; decide +kernel
theorem ex0 (w : World) : Calls Tryz.prog 45 #[.int .i64 2305843009213688668, .int .i64 2] w fun e w' => e = .returned (.tuple #[.int .i64 1, .int .i64 0]) ∧ Below w.heap.size w w' := by
  have h := fAdd 2305843009213688668 2 (by decide) (by decide) w
  exact h
theorem ex1 (w : World) : Calls Tryz.prog 90 #[.int .i64 0, .int .i64 1] w fun e w' => e = .returned (.tuple #[.int .i64 2305843009213688668, .int .i64 0]) ∧ Below w.heap.size w w' := by
  have h := fSub 0 1 (by decide) (by decide) w
  exact h
theorem ex2 (w : World) : Calls Tryz.prog 57 #[.int .i64 2305843009213688668, .int .i64 2305843009213688668] w fun e w' => e = .returned (.tuple #[.int .i64 1, .int .i64 0]) ∧ Below w.heap.size w w' := by
  have h := fMul 2305843009213688668 2305843009213688668 (by decide) (by decide) w
  exact h
theorem ex3 (w : World) : Calls Tryz.prog 72 #[.int .i64 2] w fun e w' => e = .returned (.tuple #[.int .i64 1152921504606844335, .int .i64 0]) ∧ Below w.heap.size w w' := by
  have h := fInv 2 (by decide) (by decide) w
  rw [pow2inv] at h
  exact h
theorem ex6 (w : World) : Calls Tryz.prog 45 #[.int .i64 2305843009213688669, .int .i64 0] w fun e w' => e = .returned (.tuple #[.int .i64 0, .int .i64 1]) ∧ Below w.heap.size w w' := by
  have h := fAdd_bad 2305843009213688669 0 (by decide) w
  exact h
theorem ex7 (w : World) : Calls Tryz.prog 72 #[.int .i64 0] w fun e w' => e = .returned (.tuple #[.int .i64 0, .int .i64 30]) ∧ Below w.heap.size w w' := by
  have h := fInv_zero w
  exact h
theorem ex9 (w : World) : Calls Tryz.prog 33 #[.slice (some ⟨w.heap.size, 0, none⟩) 3 3, .int .i64 5] (w.alloc (.cells #[.int .i64 3, .int .i64 0, .int .i64 1] 3)) fun e w' => e = .returned (.tuple #[.int .i64 28, .int .i64 0]) ∧ Below w.heap.size w w' := by
  have hr : RdI (w.alloc (.cells #[.int .i64 3, .int .i64 0, .int .i64 1] 3)) (some ⟨w.heap.size, 0, none⟩) [3, 0, 1] := by
    refine ⟨by unfold maxLen; decide, .inr ⟨_, rfl, fun j hj => ?_⟩⟩
    have hj : j < 3 := hj
    match j, hj with
    | 0, _ => simp [Addr.add]
    | 1, _ => simp [Addr.add]
    | 2, _ => simp [Addr.add]
  have h := fEval _ 3 [3, 0, 1] 5 (by decide) (by decide) _ hr
  have e : evQ 5 [3, 0, 1] = 28 := by decide +kernel
  rw [e] at h
  refine h.mono ?_
  rintro e w' h
  exact ⟨h.1, belowNext ((Below.refl _ w).alloc (Nat.le_refl _) _) h.2⟩
theorem ex10 (w : World) : Calls Tryz.prog 33 #[.slice none 0 0, .int .i64 5] w fun e w' => e = .returned (.tuple #[.int .i64 0, .int .i64 0]) ∧ Below w.heap.size w w' := by
  have h := fEval none 0 [] 5 (by decide) (by decide) w ⟨Nat.zero_le _, .inl rfl⟩
  exact h
theorem ex11 (w : World) : Calls Tryz.prog 18 #[.int .i64 2305843009213688668] w fun e w' => e = .returned (.int .i64 0) ∧ Below w.heap.size w w' := fCheck 2305843009213688668 w
theorem ex12 (w : World) : Calls Tryz.prog 18 #[.int .i64 2305843009213688669] w fun e w' => e = .returned (.int .i64 1) ∧ Below w.heap.size w w' := fCheck 2305843009213688669 w

end Go.Proofs.YtecojpkefobgpaaGreatDoor
