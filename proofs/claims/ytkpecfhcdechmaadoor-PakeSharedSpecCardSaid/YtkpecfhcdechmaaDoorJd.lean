/-
  Package pake: Check.
-/
import Derived.Test.YtkpecfhcdechmaaDoorJc
import Derived.Deep.RegionHeld3
namespace Go.Proofs.YtkpecfhcdechmaaDoor
open Go.RowKit
set_option linter.unusedVariables false
set_option linter.unusedSimpArgs false

/-- A side by value. -/
def sidV (r c s : Int) : Value := .agg #[.int .i64 r, .int .i64 c, .int .i64 s]
theorem roleV_agg (r : Int) : ∃ u v, roleV r = .agg #[.string u, v] ∧ v.oneCell' = true := by
  unfold roleV hostV guestV noneV
  split
  · exact ⟨_, _, rfl, rfl⟩
  · split
    · exact ⟨_, _, rfl, rfl⟩
    · exact ⟨_, _, rfl, rfl⟩

set_option maxRecDepth 100000 in
set_option maxHeartbeats 1600000 in
theorem pCheck_any (r c s : Int) (w : World) :
    Calls Tryd.prog 13 #[sidV r c s] w fun e w' => e = .returned (.int .i64 (pkE r c s)) ∧ Below w.heap.size w w' := by
  unfold sidV
  obtain ⟨w1, hw1⟩ : ∃ w1, w1 = w.alloc (.cells #[.int .i64 r, .int .i64 c, .int .i64 s] 23) := ⟨_, rfl⟩
  have HB1 : Hid (Below w.heap.size w w1) := Lib.hid (hw1 ▸ (Below.refl _ _).alloc (Nat.le_refl _) _)
  have HC1 : Hid (CB w1 w.heap.size 23 #[.int .i64 r, .int .i64 c, .int .i64 s]) := Lib.hid (hw1 ▸ CB.new w _ _)
  have KR := Lib.hid (fun W => roles_ex W)
  obtain ⟨u, v, huv, hov⟩ := roleV_agg r
  have hst := fun (a : Addr) (W : World) m => run_store Tryd.prog W a v m hov
  obtain ⟨k, hk⟩ : ∃ k, decide (1 ≤ r ∧ r ≤ 2) = k := ⟨_, rfl⟩
  have KL := Lib.hid (fun W b h => run_lookOk W b h r)
  rw [huv, hk] at KL
  have HKK := Lib.hid hk
  obtain ⟨y, hy⟩ : ∃ y, pkE r c s = y := ⟨_, rfl⟩
  have HY := Lib.hid hy
  rw [hy]
  clear hk huv hov hy
  go_enter Tryd.func13, Tryd.ntmps13
  go_wp2_with fail
  rw [← hw1]
  clear hw1
  rename_i K0 hK0
  refine region_writes [6, 7, 8, 9, 5, 10, 11, 3, 4] (fun f W => f 4 = .bool k ∧ Below w1.heap.size w1 W) ?_ ?_
  rotate_left
  · clear hK0 K0
    have HE : Hid (Below w1.heap.size w1 w1.drew) := Lib.hid ((Below.refl _ _).drew)
    have HS : Hid (∀ W, Below w1.heap.size w1 W → W.cell? ⟨w.heap.size, 0, none⟩ = some (.int .i64 r)) := Lib.hid (fun W hW => (HC1.out.call hW).cell 0)
    have hS := HS.out _ HE.out
    have HE1 : Hid (Below w1.heap.size w1 (w1.alloc (.cells #[.string ⟨#[]⟩, .nilFunc] 59)).drew) := Lib.hid (((Below.refl _ _).alloc (Nat.le_refl _) (.cells #[.string ⟨#[]⟩, .nilFunc] 59)).drew)
    have hS1 := HS.out _ HE1.out
    go_region_held3 (fun w' => w'.cell? ⟨w.heap.size, 0, none⟩ = some (.int .i64 r) ∧ True)
      (first
        | exact ⟨hS5, trivial⟩
        | exact ⟨hS4, trivial⟩
        | exact ⟨hS3, trivial⟩
        | exact ⟨hS2, trivial⟩
        | exact ⟨hS1, trivial⟩
        | exact ⟨hS, trivial⟩)
      (first
        | (go_at_call 35
           with_reducible refine (KR.out w1.drew).mono ?_
           rintro e w2 ⟨bm, rfl, hrm, hb⟩
           have HE2 : Hid (Below w1.heap.size w1 w2) := Lib.hid (HE.out.trans (hb.mono HE.out.size))
           have HE3 : Hid (Below w1.heap.size w1 (w2.alloc (.cells #[.string ⟨#[]⟩, .nilFunc] 59))) := Lib.hid (HE2.out.alloc HE2.out.size _)
           have hS2 := HS.out _ HE2.out
           have hS3 := HS.out _ HE3.out
           have hS4 := HS.out _ (HE2.out.alloc HE2.out.size (.cells #[.string u, v] 59))
           have hlk := KL.out _ _ hrm
           have hlk2 := KL.out _ _ (hrm.call ((Below.refl w2.heap.size w2).alloc (Nat.le_refl _) (.cells #[.string ⟨#[]⟩, .nilFunc] 59)))
           clear hrm hb)
        | (go_at_call 35
           with_reducible refine (KR.out (w1.alloc (.cells #[.string ⟨#[]⟩, .nilFunc] 59)).drew).mono ?_
           rintro e w2 ⟨bm, rfl, hrm, hb⟩
           have HE2 : Hid (Below w1.heap.size w1 w2) := Lib.hid (HE1.out.trans (hb.mono HE1.out.size))
           have hS2 := HS.out _ HE2.out
           have hcb : CB w2 w1.heap.size 59 #[.string ⟨#[]⟩, .nilFunc] := ((CB.new w1 _ _).drew).call hb
           have hz0 : w2.cell? ⟨w1.heap.size, 0, none⟩ = some (.string ⟨#[]⟩) := hcb.cell 0
           have hz1 : w2.cell? ⟨w1.heap.size, 1, none⟩ = some .nilFunc := hcb.cell 1
           have hf0 : w2.frozen? ⟨w1.heap.size, 0, none⟩ = false := hcb.frozen 0
           have hf1 : w2.frozen? ⟨w1.heap.size, 1, none⟩ = false := hcb.frozen 1
           have HE4 := Lib.hid (HE2.out.setCell (p := ⟨w1.heap.size, 0, none⟩) (Nat.le_refl _) (.string u))
           have HE5 := Lib.hid (HE4.out.setCell (p := ⟨w1.heap.size, 1, none⟩) (Nat.le_refl _) v)
           have hS4 := HS.out _ HE4.out
           have hS5 := HS.out _ HE5.out
           have hlk := KL.out _ _ hrm
           clear hrm hb hcb))
    all_goals
      refine ⟨rfl, writes_ex (by kernel_rfl) ⟨rfl, ?_⟩⟩
      first
        | exact HE2.out.alloc HE2.out.size (.cells #[.string u, v] 59)
        | exact HE5.out
  rintro f W ⟨e4, hbW⟩
  have HBW := Lib.hid (HB1.out.trans (hbW.mono HB1.out.size))
  have HCW := Lib.hid (HC1.out.call hbW)
  have c1 : W.cell? ⟨w.heap.size, 1, none⟩ = some (.int .i64 c) := HCW.out.cell 1
  have c2 : W.cell? ⟨w.heap.size, 2, none⟩ = some (.int .i64 s) := HCW.out.cell 2
  clear hbW HB1 HC1 KR KL hst
  refine hK0 _ _ ?_
  clear hK0 K0
  simp only [writes, List.foldl_cons, List.foldl_nil, Act.put, List.setIfInBounds_toArray, List.set_cons_zero, List.set_cons_succ]
  rw [e4]
  have hk := HKK.out
  by_cases g1 : 1 ≤ r ∧ r ≤ 2
  · rw [decide_eq_true g1] at hk
    subst hk
    by_cases g2 : c < 0
    · have HR : Hid (pkE r c s = 100) := Lib.hid (if_neg (by unfold okP; omega))
      have f2 : decide (c < 0) = true := decide_eq_true g2
      clear g1 HKK
      go_wp2_with fail
      go_ret
      exact ⟨by rw [← HY.out, HR.out]; rfl, HBW.out⟩
    · have f2 : decide (c < 0) = false := decide_eq_false g2
      by_cases g3 : 999999 < c
      · have HR : Hid (pkE r c s = 100) := Lib.hid (if_neg (by unfold okP; omega))
        have f3 : decide (999999 < c) = true := decide_eq_true g3
        clear g1 g2 HKK
        go_wp2_with fail
        go_ret
        exact ⟨by rw [← HY.out, HR.out]; rfl, HBW.out⟩
      · have f3 : decide (999999 < c) = false := decide_eq_false g3
        by_cases g4 : s < 1
        · have HR : Hid (pkE r c s = 100) := Lib.hid (if_neg (by unfold okP; omega))
          have f4 : decide (s < 1) = true := decide_eq_true g4
          clear g1 g2 g3 HKK
          go_wp2_with fail
          go_ret
          exact ⟨by rw [← HY.out, HR.out]; rfl, HBW.out⟩
        · have f4 : decide (s < 1) = false := decide_eq_false g4
          by_cases g5 : 2305843009213688669 ≤ s
          · have HR : Hid (pkE r c s = 100) := Lib.hid (if_neg (by unfold okP; omega))
            have f5 : decide (2305843009213688669 ≤ s) = true := decide_eq_true g5
            clear g1 g2 g3 g4 HKK
            go_wp2_with fail
            go_ret
            exact ⟨by rw [← HY.out, HR.out]; rfl, HBW.out⟩
          · have f5 : decide (2305843009213688669 ≤ s) = false := decide_eq_false g5
            have HR : Hid (pkE r c s = 0) := Lib.hid (if_pos (by unfold okP; omega))
            clear g1 g2 g3 g4 g5 HKK
            go_wp2_with fail
            go_ret
            exact ⟨by rw [← HY.out, HR.out]; rfl, HBW.out⟩
  · have HR : Hid (pkE r c s = 100) := Lib.hid (if_neg (by unfold okP; omega))
    rw [decide_eq_false g1] at hk
    subst hk
    clear g1 HKK
    go_wp2_with fail
    go_ret
    exact ⟨by rw [← HY.out, HR.out]; rfl, HBW.out⟩
end Go.Proofs.YtkpecfhcdechmaaDoor
