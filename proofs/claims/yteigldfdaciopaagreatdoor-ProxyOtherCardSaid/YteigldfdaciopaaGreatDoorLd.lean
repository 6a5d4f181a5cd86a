/-
  Package proxy: ensure, must; capsules and private keys checked.
-/
import Derived.Test.YteigldfdaciopaaGreatDoorLc
import Derived.Test.YteigldfdaciopaaGreatDoorPkG
namespace Go.Proofs.YteigldfdaciopaaGreatDoor
open Go.RowKit
set_option linter.unusedVariables false
set_option linter.unusedSimpArgs false

/-- The panic of package proxy. -/
def errP (n : Int) : List PanicEntry := [{ v := .iface 27 (.int .i64 n), recovered := false }]
theorem ensure_ok (w : World) : Calls Tryz.prog 23 #[.int .i64 0] w fun e w' => e = .returned (.tuple #[]) ∧ w' = w := by
  go_enter Tryz.func23, Tryz.ntmps23
  go_wp2_with fail
  exact bodyPost_end (v := .tuple #[]) (results_none rfl _ _ _) rfl ⟨rfl, rfl⟩
theorem ensure_bad (n : Int) (h : n ≠ 0) (w : World) : Calls Tryz.prog 23 #[.int .i64 n] w fun e w' => e = .panicked (errP n) ∧ w' = w := by
  have f1 : (n == 0) = false := by simpa using h
  have f2 : (n != 0) = true := by simpa using h
  go_enter Tryz.func23, Tryz.ntmps23
  go_wp2_with fail
  exact ⟨rfl, rfl, rfl⟩
theorem must_ok (n : Int) (w : World) : Calls Tryz.prog 26 #[.int .i64 n, .int .i64 0] w fun e w' => e = .returned (.int .i64 n) ∧ w' = w := by
  have k := ensure_ok w
  go_enter Tryz.func26, Tryz.ntmps26
  go_wp2_with (go_at_call 23; with_reducible refine k.mono ?_; rintro e w1 ⟨rfl, hw⟩; rw [hw]; clear hw)
  go_ret
  exact ⟨rfl, rfl⟩

/-- What Check answers. -/
noncomputable def ckR (a b : Int) : Int := if chkR a = 0 ∧ chkR b = 0 then 0 else 110
theorem ckR_ok {a b : Int} (ha : IsEl a) (hb : IsEl b) : ckR a b = 0 := by unfold ckR; rw [chkR_ok ha, chkR_ok hb]; rfl
theorem ckR_bad1 {a : Int} (b : Int) (ha : ¬ IsEl a) : ckR a b = 110 := by unfold ckR; rw [chkR_bad ha]; rfl
theorem ckR_bad2 (a : Int) {b : Int} (hb : ¬ IsEl b) : ckR a b = 110 := by unfold ckR; rw [chkR_bad hb, if_neg]; rintro ⟨-, h⟩; exact absurd h (by decide)
theorem ckR_bad {a b : Int} (h : ¬ (IsEl a ∧ IsEl b)) : ckR a b = 110 := by
  by_cases ha : IsEl a
  · exact ckR_bad2 a fun hb => h ⟨ha, hb⟩
  · exact ckR_bad1 b ha

set_option maxRecDepth 100000 in
theorem pCheck11_any (a b : Int) (l : List UInt8) (hl : l.length = 32) (w : World) :
    Calls Tryz.prog 11 #[.agg (capA a b l)] w fun e w' => e = .returned (.int .i64 (ckR a b)) ∧ Below w.heap.size w w' := by
  obtain ⟨w1, hw1⟩ : ∃ w1, w1 = w.alloc (.cells (capA a b l) 25) := ⟨_, rfl⟩
  have HB1 : Hid (Below w.heap.size w w1) := Lib.hid (hw1 ▸ (Below.refl _ _).alloc (Nat.le_refl _) _)
  have HC1 : Hid (CB w1 w.heap.size 25 (capA a b l)) := Lib.hid (hw1 ▸ CB.new w _ _)
  have c0 := (CB.new w 25 (capA a b l)).A
  by_cases ha : IsEl a
  · have HK1 := Lib.hid (fun W => gCheck_ok a ha W)
    by_cases hb : IsEl b
    · have HK2 := Lib.hid (fun W => gCheck_ok b hb W)
      rw [ckR_ok ha hb]
      clear ha hb hl
      go_enter Tryz.func11, Tryz.ntmps11
      go_wp2_with fail
      rw [← hw1]
      clear hw1 c0
      refine (HK1.out _).mono ?_
      rintro e w2 ⟨rfl, hb⟩
      have HB2 := Lib.hid (HB1.out.trans (hb.mono HB1.out.size))
      have c1 := (HC1.out.call hb).B
      clear hb
      go_wp2_with fail
      refine (HK2.out _).mono ?_
      rintro e w3 ⟨rfl, hb⟩
      have HB3 := Lib.hid (HB2.out.trans (hb.mono HB2.out.size))
      clear hb
      go_wp2_with fail
      go_ret
      exact ⟨rfl, HB3.out⟩
    · have HK2 := Lib.hid (fun W => gCheck_bad b hb W)
      rw [ckR_bad2 a hb]
      clear ha hb hl
      go_enter Tryz.func11, Tryz.ntmps11
      go_wp2_with fail
      rw [← hw1]
      clear hw1 c0
      refine (HK1.out _).mono ?_
      rintro e w2 ⟨rfl, hb⟩
      have HB2 := Lib.hid (HB1.out.trans (hb.mono HB1.out.size))
      have c1 := (HC1.out.call hb).B
      clear hb
      go_wp2_with fail
      refine (HK2.out _).mono ?_
      rintro e w3 ⟨rfl, hb⟩
      have HB3 := Lib.hid (HB2.out.trans (hb.mono HB2.out.size))
      clear hb
      go_wp2_with fail
      go_ret
      exact ⟨rfl, HB3.out⟩
  · have HK1 := Lib.hid (fun W => gCheck_bad a ha W)
    rw [ckR_bad1 b ha]
    clear ha hl
    go_enter Tryz.func11, Tryz.ntmps11
    go_wp2_with fail
    rw [← hw1]
    clear hw1 c0
    refine (HK1.out _).mono ?_
    rintro e w2 ⟨rfl, hb⟩
    have HB2 := Lib.hid (HB1.out.trans (hb.mono HB1.out.size))
    clear hb
    go_wp2_with fail
    go_ret
    exact ⟨rfl, HB2.out⟩

/-- Private keys. -/
def pvB (n : Int) : Bool := decide (1 ≤ n ∧ n < 2305843009213688669)
def pvR (ns : List Int) : Int := if ns.all pvB then 0 else 50
set_option maxRecDepth 100000 in
theorem private_any (g : Nat) (ns : List Int) (w : World) (hns : ns.length ≤ 4) (hN : RdN w g ns) :
    Calls Tryz.prog 38 #[.slice (some ⟨g, 0, none⟩) ns.length ns.length] w fun e w' => e = .returned (.int .i64 (pvR ns)) ∧ w' = w := by
  have HN := Lib.hid hN
  clear hN
  obtain ⟨m, hm⟩ : ∃ m, ns.length = m := ⟨_, rfl⟩
  have HM := Lib.hid hm
  have HALL : Hid ((∀ j (h : j < ns.length), pvB ns[j] = true) → pvR ns = 0) := Lib.hid fun h => by
    unfold pvR
    rw [if_pos]
    rw [List.all_eq_true]
    intro x hx
    obtain ⟨i, hi, rfl⟩ := List.mem_iff_getElem.1 hx
    exact h i hi
  have HONE : Hid (∀ j (h : j < ns.length), pvB ns[j] = false → pvR ns = 50) := Lib.hid fun j hj h => by
    unfold pvR
    rw [if_neg]
    rw [List.all_eq_true]
    intro h2
    rw [h2 _ (List.getElem_mem hj)] at h
    cases h
  obtain ⟨R, hR⟩ : ∃ R, pvR ns = R := ⟨_, rfl⟩
  rw [hR] at HALL HONE ⊢
  rw [hm] at hns ⊢
  clear hm hR
  go_enter Tryz.func38, Tryz.ntmps38
  go_wp2_with fail
  go_loopw [7] (fun i wr => ∃ k : Nat, k ≤ m ∧ i = .int .i64 k ∧ (∀ j (h : j < ns.length), j < k → pvB ns[j] = true) ∧ wr = w) (fun i _ => m - (intOf i).toNat)
  case atStart => exact ⟨0, by omega, rfl, fun j h h2 => absurd h2 (by omega), rfl⟩
  case round =>
    obtain ⟨k, hk, rfl, hall, rfl⟩ := hrel
    have HA := Lib.hid hall
    clear hall
    by_cases hlt : k < m
    · have hkl : k < ns.length := by rw [HM.out]; exact hlt
      have ck := HN.out.2 k hkl
      have HO := Lib.hid (HONE.out k hkl)
      have HS : Hid (pvB ns[k] = true → ∀ j (h : j < ns.length), j < k + 1 → pvB ns[j] = true) := Lib.hid fun h j hj h2 => by
        rcases Nat.lt_or_eq_of_le (Nat.lt_succ_iff.1 h2) with h3 | h3
        · exact HA.out j hj h3
        · subst h3; exact h
      generalize ns[k] = x at *
      by_cases h1 : x < 1
      · have HR : Hid (R = 50) := Lib.hid (HO.out (by unfold pvB; exact decide_eq_false (by omega)))
        have f1 : decide (x < 1) = true := decide_eq_true h1
        go_wp2_with fail
        go_ret
        rw [HR.out]
        exact ⟨rfl, rfl⟩
      · have f1 : decide (x < 1) = false := decide_eq_false h1
        by_cases h2 : 2305843009213688669 ≤ x
        · have HR : Hid (R = 50) := Lib.hid (HO.out (by unfold pvB; exact decide_eq_false (by omega)))
          have f2 : decide (2305843009213688669 ≤ x) = true := decide_eq_true h2
          go_wp2_with fail
          go_ret
          rw [HR.out]
          exact ⟨rfl, rfl⟩
        · have f2 : decide (2305843009213688669 ≤ x) = false := decide_eq_false h2
          have HP := Lib.hid (HS.out (by unfold pvB; exact decide_eq_true (by omega)))
          go_wp2_with fail
          go_roundw
          case rel => exact ⟨k + 1, by omega, by go_num, HP.out, trivial⟩
          case measure => simp [intOf]; omega
    · obtain rfl : k = m := by omega
      have HR : Hid (R = 0) := Lib.hid (HALL.out fun j hj => HA.out j hj (by have := HM.out; omega))
      go_wp2_with fail
      go_ret
      rw [HR.out]
      exact ⟨rfl, rfl⟩
end Go.Proofs.YteigldfdaciopaaGreatDoor
