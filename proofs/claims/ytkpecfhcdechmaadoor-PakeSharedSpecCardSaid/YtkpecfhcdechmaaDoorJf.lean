/-
  Package pake: the shared element.
-/
import Derived.Test.YtkpecfhcdechmaaDoorJe
namespace Go.Proofs.YtkpecfhcdechmaaDoor
open Go.RowKit
set_option linter.unusedVariables false
set_option linter.unusedSimpArgs false

theorem inv_el {a : Nat} (h : El a) : IsEl ((a ^ (oQ - 1) % 4611686018427377339 : Nat) : Int) := isEl_of (Nat.mod_lt _ (by decide)) (h.pow _)
theorem mul_is {a b : Nat} (ha : IsEl (a : Int)) (hb : IsEl (b : Int)) : IsEl ((a * b % 4611686018427377339 : Nat) : Int) := by
  obtain ⟨n, hn, hE⟩ := ha.nat
  obtain ⟨m, hm, hF⟩ := hb.nat
  have e1 : a = n := by exact_mod_cast hn
  have e2 : b = m := by exact_mod_cast hm
  subst e1; subst e2
  exact isEl_of (Nat.mod_lt _ (by decide)) (hE.2.2.mul hF.2.2)

set_option maxRecDepth 100000 in
set_option maxHeartbeats 1600000 in
theorem pshared_any (r c : Int) (n p : Nat) (h : okP r c n) (hp : IsEl (p : Int)) (w : World) (hT : Tab w) :
    Calls Tryd.prog 40 #[sidV r c n, .int .i64 p] w fun e w' => e = .returned (.int .i64 ((zP r c n p : Nat) : Int)) ∧ Below w.heap.size w w' := by
  have HT := Lib.hid hT
  have KR := Lib.hid (fun W => roles_ex W)
  have KO := Lib.hid (fun W => other_any r (by unfold okP at *; omega) W)
  have KV := Lib.hid (fun W h => cover_any (3 - r) (by unfold okP at *; omega) c W h)
  have KI := Lib.hid (fun W => gInv_ok (mdS (3 - r) c) (mdS_is (3 - r) c) W)
  have KM := Lib.hid (fun W => gMul_ok p (mdS (3 - r) c ^ (oQ - 1) % 4611686018427377339) hp (inv_el (mdS_el (3 - r) c)) W)
  have KX := Lib.hid (fun W => gExp_ok (p * (mdS (3 - r) c ^ (oQ - 1) % 4611686018427377339) % 4611686018427377339) n (mul_is hp (inv_el (mdS_el (3 - r) c))) (by have := h.2.2.2; omega) W)
  have KL := Lib.hid (fun W b h => run_look W b h (3 - r))
  obtain ⟨y, hy⟩ : ∃ y, zP r c n p = y := ⟨_, rfl⟩
  rw [show (p * (mdS (3 - r) c ^ (oQ - 1) % 4611686018427377339) % 4611686018427377339) ^ n % 4611686018427377339 = y from hy] at KX
  rw [hy]
  obtain ⟨x, hx⟩ : ∃ x, p * (mdS (3 - r) c ^ (oQ - 1) % 4611686018427377339) % 4611686018427377339 = x := ⟨_, rfl⟩
  rw [hx] at KM KX
  obtain ⟨i, hi⟩ : ∃ i, mdS (3 - r) c ^ (oQ - 1) % 4611686018427377339 = i := ⟨_, rfl⟩
  rw [hi] at KM KI
  obtain ⟨m, hm⟩ : ∃ m, mdS (3 - r) c = m := ⟨_, rfl⟩
  rw [hm] at KV KI
  obtain ⟨u, v, huv, -⟩ := roleV_agg (3 - r)
  rw [huv] at KL KV
  obtain ⟨ro, hro⟩ : ∃ ro, 3 - r = ro := ⟨_, rfl⟩
  rw [hro] at KO KL
  unfold sidV at *
  obtain ⟨w1, hw1⟩ : ∃ w1, w1 = w.alloc (.cells #[.int .i64 r, .int .i64 c, .int .i64 n] 23) := ⟨_, rfl⟩
  have HB1 : Hid (Below w.heap.size w w1) := Lib.hid (hw1 ▸ (Below.refl _ _).alloc (Nat.le_refl _) _)
  have HC1 : Hid (CB w1 w.heap.size 23 #[.int .i64 r, .int .i64 c, .int .i64 n]) := Lib.hid (hw1 ▸ CB.new w _ _)
  clear hT h hy hx hi hm huv hp hro
  go_enter Tryd.func40, Tryd.ntmps40
  go_wp2_with fail
  rw [← hw1]
  clear hw1
  have hS1 : w1.drew.cell? ⟨w.heap.size, 0, none⟩ = some (.int .i64 r) ∧ w1.drew.cell? ⟨w.heap.size, 1, none⟩ = some (.int .i64 c) := ⟨HC1.out.cell 0, HC1.out.cell 1⟩
  go_region_held3 (fun w' => w'.cell? ⟨w.heap.size, 0, none⟩ = some (.int .i64 r) ∧ w'.cell? ⟨w.heap.size, 1, none⟩ = some (.int .i64 c))
    (first
      | exact hS4
      | exact hS3
      | exact hS2
      | exact hS1)
    (first
      | (go_at_call 35
         with_reducible refine (KR.out w1.drew).mono ?_
         rintro e w2 ⟨bm, rfl, hrm, hb⟩
         have HC2 := Lib.hid ((HC1.out.drew).call hb)
         have HB2 := Lib.hid (HB1.out.drew.trans (hb.mono HB1.out.size))
         have hlk := KL.out _ _ hrm
         have hS2 : w2.cell? ⟨w.heap.size, 0, none⟩ = some (.int .i64 r) ∧ w2.cell? ⟨w.heap.size, 1, none⟩ = some (.int .i64 c) := ⟨HC2.out.cell 0, HC2.out.cell 1⟩
         clear hb hrm)
      | (go_at_call 46
         with_reducible refine (KO.out w2).mono ?_
         rintro e wo ⟨rfl, hwo⟩
         rw [hwo]
         clear hwo wo)
      | (go_at_call 34
         with_reducible refine (KV.out w2 (HT.out.below HB2.out HT.out.lt)).mono ?_
         rintro e w3 ⟨rfl, hb⟩
         have HC3 := Lib.hid (HC2.out.call hb)
         have HB3 := Lib.hid (HB2.out.trans (hb.mono HB2.out.size))
         have hS3 : w3.cell? ⟨w.heap.size, 0, none⟩ = some (.int .i64 r) ∧ w3.cell? ⟨w.heap.size, 1, none⟩ = some (.int .i64 c) := ⟨HC3.out.cell 0, HC3.out.cell 1⟩
         clear hb)
      | (go_at_call 30
         with_reducible refine (KI.out w3).mono ?_
         rintro e w4 ⟨rfl, hb⟩
         have HB4 := Lib.hid (HB3.out.trans (hb.mono HB3.out.size))
         have HC4 := Lib.hid (HC3.out.call hb)
         have hS4 : w4.cell? ⟨w.heap.size, 0, none⟩ = some (.int .i64 r) ∧ w4.cell? ⟨w.heap.size, 1, none⟩ = some (.int .i64 c) := ⟨HC4.out.cell 0, HC4.out.cell 1⟩
         clear hb))
  all_goals
    go_wp2_with fail
    refine (KM.out _).mono ?_
    rintro e w5 ⟨rfl, hb⟩
    have HC5 := Lib.hid (HC4.out.call hb)
    have HB5 := Lib.hid (HB4.out.trans (hb.mono HB4.out.size))
    have e2 : w5.cell? ⟨w.heap.size, 2, none⟩ = some (.int .i64 n) := HC5.out.cell 2
    clear hb
    go_wp2_with fail
    refine (KX.out _).mono ?_
    rintro e w6 ⟨rfl, hb⟩
    go_wp2_with fail
    go_ret
    exact ⟨rfl, HB5.out.trans (hb.mono HB5.out.size)⟩
end Go.Proofs.YtkpecfhcdechmaaDoor
