/-
  Package pake: Point, the shared element.
-/
import Derived.Test.YtkpecfhcdechmaaDoorJd
namespace Go.Proofs.YtkpecfhcdechmaaDoor
open Go.RowKit
set_option linter.unusedVariables false
set_option linter.unusedSimpArgs false

theorem four_is (s : Nat) : IsEl ((4 ^ s % 4611686018427377339 : Nat) : Int) := isEl_of (Nat.mod_lt _ (by decide)) (four_el s)
theorem four4 : IsEl ((4 : Nat) : Int) := four_is 1
/-- A power of 4. -/
theorem gBase_ok (n : Nat) (hn : n < 2305843009213688669) (w : World) : Calls Tryd.prog 32 #[.int .i64 n] w fun e w' => e = .returned (.tuple #[.int .i64 ((4 ^ n % 4611686018427377339 : Nat) : Int), .int .i64 0]) ∧ Below w.heap.size w w' := by
  have k := gBase_any (n : Int) w
  rw [show (4 : Int) = ((4 : Nat) : Int) from rfl, expR_ok four4 hn] at k
  exact k
/-- What Point returns. -/
def ptW (r c s : Int) : Int := if okP r c s then ((ptP r c s.toNat : Nat) : Int) else 0
theorem pkE_ok {r c s : Int} (h : okP r c s) : pkE r c s = 0 := if_pos h
theorem pkE_bad {r c s : Int} (h : ¬ okP r c s) : pkE r c s = 100 := if_neg h
theorem ptW_ok {r c : Int} {n : Nat} (h : okP r c n) : ptW r c n = ((ptP r c n : Nat) : Int) := by unfold ptW; rw [if_pos h, Int.toNat_natCast]
theorem ptW_bad {r c s : Int} (h : ¬ okP r c s) : ptW r c s = 0 := if_neg h

set_option maxRecDepth 100000 in
set_option maxHeartbeats 1600000 in
theorem Point_ok (r c : Int) (n : Nat) (h : okP r c n) (w : World) (hT : Tab w) :
    Calls Tryd.prog 11 #[sidV r c n] w fun e w' => e = .returned (.tuple #[.int .i64 ((ptP r c n : Nat) : Int), .int .i64 0]) ∧ Below w.heap.size w w' := by
  have HT := Lib.hid hT
  have KC := Lib.hid (fun W => pCheck_any r c n W)
  rw [pkE_ok h] at KC
  have KB := Lib.hid (fun W => gBase_ok n (by have := h.2.2.2; omega) W)
  have KR := Lib.hid (fun W => roles_ex W)
  have KV := Lib.hid (fun W h => cover_any r (by unfold okP at *; omega) c W h)
  have KM := Lib.hid (fun W => gMul_ok (4 ^ n % 4611686018427377339) (mdS r c) (four_is n) (mdS_is r c) W)
  have KL := Lib.hid (fun W b h => run_look W b h r)
  obtain ⟨y, hy⟩ : ∃ y, ptP r c n = y := ⟨_, rfl⟩
  rw [show (4 ^ n % 4611686018427377339) * mdS r c % 4611686018427377339 = y from hy] at KM
  rw [hy]
  obtain ⟨p, hp⟩ : ∃ p, 4 ^ n % 4611686018427377339 = p := ⟨_, rfl⟩
  obtain ⟨m, hm⟩ : ∃ m, mdS r c = m := ⟨_, rfl⟩
  rw [hp] at KB KM
  rw [hm] at KV KM
  obtain ⟨u, v, huv, -⟩ := roleV_agg r
  rw [huv] at KL KV
  unfold sidV at *
  obtain ⟨w1, hw1⟩ : ∃ w1, w1 = w.alloc (.cells #[.int .i64 r, .int .i64 c, .int .i64 n] 23) := ⟨_, rfl⟩
  have HB1 : Hid (Below w.heap.size w w1) := Lib.hid (hw1 ▸ (Below.refl _ _).alloc (Nat.le_refl _) _)
  have HC1 : Hid (CB w1 w.heap.size 23 #[.int .i64 r, .int .i64 c, .int .i64 n]) := Lib.hid (hw1 ▸ CB.new w _ _)
  have e0 : w1.cell? ⟨w.heap.size, 0, none⟩ = some (.int .i64 r) := HC1.out.cell 0
  have e1 : w1.cell? ⟨w.heap.size, 1, none⟩ = some (.int .i64 c) := HC1.out.cell 1
  have e2 : w1.cell? ⟨w.heap.size, 2, none⟩ = some (.int .i64 n) := HC1.out.cell 2
  clear hT h hy hp hm huv
  go_enter Tryd.func11, Tryd.ntmps11
  go_wp2_with fail
  rw [← hw1]
  clear hw1
  refine (KC.out _).mono ?_
  rintro e w2 ⟨rfl, hb⟩
  have HB2 := Lib.hid (HB1.out.trans (hb.mono HB1.out.size))
  have HC2 := Lib.hid (HC1.out.call hb)
  clear hb HB1 HC1 KC e0 e1 e2
  have e2 : w2.cell? ⟨w.heap.size, 2, none⟩ = some (.int .i64 n) := HC2.out.cell 2
  go_wp2_with fail
  clear e2
  refine (KB.out _).mono ?_
  rintro e w3 ⟨rfl, hb⟩
  have HB3 := Lib.hid (HB2.out.trans (hb.mono HB2.out.size))
  have HC3 := Lib.hid (HC2.out.call hb)
  clear hb HB2 HC2 KB
  go_wp2_with fail
  have hS3 : w3.drew.cell? ⟨w.heap.size, 0, none⟩ = some (.int .i64 r) ∧ w3.drew.cell? ⟨w.heap.size, 1, none⟩ = some (.int .i64 c) := ⟨HC3.out.cell 0, HC3.out.cell 1⟩
  go_region_held3 (fun w' => w'.cell? ⟨w.heap.size, 0, none⟩ = some (.int .i64 r) ∧ w'.cell? ⟨w.heap.size, 1, none⟩ = some (.int .i64 c))
    (first
      | exact hS6
      | exact hS5
      | exact hS4
      | exact hS3)
    (first
      | (go_at_call 35
         with_reducible refine (KR.out w3.drew).mono ?_
         rintro e w4 ⟨bm, rfl, hrm, hb⟩
         have HC4 := Lib.hid ((HC3.out.drew).call hb)
         have HB4 := Lib.hid (HB3.out.drew.trans (hb.mono HB3.out.size))
         have hlk := KL.out _ _ hrm
         have hS4 : w4.cell? ⟨w.heap.size, 0, none⟩ = some (.int .i64 r) ∧ w4.cell? ⟨w.heap.size, 1, none⟩ = some (.int .i64 c) := ⟨HC4.out.cell 0, HC4.out.cell 1⟩
         clear hb hrm)
      | (go_at_call 34
         with_reducible refine (KV.out w4 (HT.out.below HB4.out HT.out.lt)).mono ?_
         rintro e w5 ⟨rfl, hb⟩
         have HC5 := Lib.hid (HC4.out.call hb)
         have HB5 := Lib.hid (HB4.out.trans (hb.mono HB4.out.size))
         have hS5 : w5.cell? ⟨w.heap.size, 0, none⟩ = some (.int .i64 r) ∧ w5.cell? ⟨w.heap.size, 1, none⟩ = some (.int .i64 c) := ⟨HC5.out.cell 0, HC5.out.cell 1⟩
         clear hb)
      | (go_at_call 31
         with_reducible refine (KM.out w5).mono ?_
         rintro e w6 ⟨rfl, hb⟩
         have HB6 := Lib.hid (HB5.out.trans (hb.mono HB5.out.size))
         have HC6 := Lib.hid (HC5.out.call hb)
         have hS6 : w6.cell? ⟨w.heap.size, 0, none⟩ = some (.int .i64 r) ∧ w6.cell? ⟨w.heap.size, 1, none⟩ = some (.int .i64 c) := ⟨HC6.out.cell 0, HC6.out.cell 1⟩
         clear hb))
  go_wp2_with fail
  go_ret2
  exact ⟨rfl, HB6.out⟩

set_option maxRecDepth 100000 in
theorem Point_bad (r c s : Int) (h : ¬ okP r c s) (w : World) :
    Calls Tryd.prog 11 #[sidV r c s] w fun e w' => e = .returned (.tuple #[.int .i64 0, .int .i64 100]) ∧ Below w.heap.size w w' := by
  have KC := Lib.hid (fun W => pCheck_any r c s W)
  rw [pkE_bad h] at KC
  unfold sidV at *
  obtain ⟨w1, hw1⟩ : ∃ w1, w1 = w.alloc (.cells #[.int .i64 r, .int .i64 c, .int .i64 s] 23) := ⟨_, rfl⟩
  have HB1 : Hid (Below w.heap.size w w1) := Lib.hid (hw1 ▸ (Below.refl _ _).alloc (Nat.le_refl _) _)
  have HC1 : Hid (CB w1 w.heap.size 23 #[.int .i64 r, .int .i64 c, .int .i64 s]) := Lib.hid (hw1 ▸ CB.new w _ _)
  clear h
  go_enter Tryd.func11, Tryd.ntmps11
  go_wp2_with fail
  rw [← hw1]
  clear hw1
  refine (KC.out _).mono ?_
  rintro e w2 ⟨rfl, hb⟩
  have HB2 := Lib.hid (HB1.out.trans (hb.mono HB1.out.size))
  clear hb HB1 HC1 KC
  go_wp2_with fail
  go_ret2
  exact ⟨rfl, HB2.out⟩
theorem Point_any (r c s : Int) (w : World) (hT : Tab w) :
    Calls Tryd.prog 11 #[sidV r c s] w fun e w' => e = .returned (.tuple #[.int .i64 (ptW r c s), .int .i64 (pkE r c s)]) ∧ Below w.heap.size w w' := by
  by_cases h : okP r c s
  · obtain ⟨n, rfl⟩ : ∃ n : Nat, s = n := ⟨s.toNat, by have := h.2.2.1; omega⟩
    rw [ptW_ok h, pkE_ok h]
    exact Point_ok r c n h w hT
  · rw [ptW_bad h, pkE_bad h]
    exact Point_bad r c s h w
end Go.Proofs.YtkpecfhcdechmaaDoor
