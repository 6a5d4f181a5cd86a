/-
  The reference of vector: numbers of devices, valid dots, few; the same lists.
-/
import Derived.Test.YtfdfaajjlangjaaMb
import Derived.StillTailTactics
import Derived.Laws.StructEq
import Derived.WalkKit
namespace Go.Proofs.Ytfdfaajjlangjaa
open Go.RowKit
set_option linter.unusedVariables false
set_option linter.unusedSimpArgs false

theorem exEqD {α : Type} (a : α) : ∃ b, a = b := ⟨a, rfl⟩
theorem atV_cons (d : Dt) (r : List Dt) (k : Int) : atV (d :: r) k = if d.1 = k then d.2 else atV r k := rfl
set_option maxRecDepth 100000 in
set_option maxHeartbeats 1000000 in
theorem rAt12_any (a : Option Addr) (cap : Nat) (l : List Dt) (k : Int) (w : World) (hl : RdDt w.heap.size w a l) :
    Calls Try.prog 17 #[.slice a l.length cap, .int .i64 k] w fun e w' => e = .returned (.int .i64 (atV l k)) ∧ w' = w := by
  have HRd := Lib.hid hl
  have hm := hl.1
  unfold maxLen at hm
  obtain ⟨R, hR⟩ := exEqD (atV l k)
  rw [hR]
  have HRR : Hid (atV (l.drop 0) k = R) := Lib.hid hR
  obtain ⟨n, hn⟩ := exEqD l.length
  have HN := Lib.hid hn
  rw [hn] at hm ⊢
  clear hl hR hn
  go_enter Try.func17, Try.ntmps17
  go_wp2_with fail
  go_loopw [5] (fun i wr => ∃ j : Nat, j ≤ n ∧ i = .int .i64 j ∧ atV (l.drop j) k = R ∧ wr = w) (fun i _ => n - (intOf i).toNat)
  case atStart => exact ⟨0, by omega, rfl, HRR.out, rfl⟩
  case round =>
    clear HRR
    obtain ⟨j, hj, rfl, hq, rfl⟩ := hrel
    by_cases hlt : j < n
    · have hjl : j < l.length := by rw [HN.out]; exact hlt
      obtain ⟨b, o, rfl, hbB, hc⟩ := HRd.out.at_ (by omega)
      obtain ⟨d0, d1⟩ := hc j hjl
      rw [List.drop_eq_getElem_cons hjl, atV_cons] at hq
      have HQ := Lib.hid hq
      generalize l[j] = s at *
      clear hc hq
      by_cases g : s.1 = k
      · have f1 : (s.1 == k) = true := beq_iff_eq.2 g
        have HV : Hid (s.2 = R) := Lib.hid (by rw [← HQ.out, if_pos g])
        go_wp2_with fail
        go_ret
        exact ⟨by rw [← HV.out]; rfl, rfl⟩
      · have f1 : (s.1 == k) = false := beq_eq_false_iff_ne.2 g
        have HV : Hid (atV (l.drop (j + 1)) k = R) := Lib.hid (by rw [← HQ.out, if_neg g])
        go_wp2_with fail
        go_roundw
        case rel => exact ⟨j + 1, by omega, by go_num, HV.out, trivial⟩
        case measure => simp [intOf]; omega
    · obtain rfl : j = n := by omega
      have HV : Hid (0 = R) := Lib.hid (by rw [← hq, List.drop_eq_nil_of_le (by rw [HN.out]; exact Nat.le_refl _)]; rfl)
      go_wp2_with fail
      go_ret
      exact ⟨by rw [← HV.out]; rfl, rfl⟩
set_option maxRecDepth 100000 in
theorem rIsDot12_any (d : Dt) (w : World) :
    Calls Try.prog 27 #[dtV d] w fun e w' => e = .returned (.bool (decide (dotP d))) ∧ Below w.heap.size w w' := by
  unfold dtV
  have HB := Lib.hid ((Below.refl w.heap.size w).alloc (Nat.le_refl _) (.cells #[.int .i64 d.1, .int .i64 d.2] 24))
  have c0 := (DB.new w d).cell0
  have c1 := (DB.new w d).cell1
  by_cases h1 : 0 ≤ d.1
  · have f1 : decide (0 ≤ d.1) = true := decide_eq_true h1
    by_cases h2 : d.1 < 512
    · have f2 : decide (d.1 < 512) = true := decide_eq_true h2
      by_cases h3 : 1 ≤ d.2
      · have f3 : decide (1 ≤ d.2) = true := decide_eq_true h3
        by_cases h4 : d.2 ≤ 1048576
        · have f4 : decide (d.2 ≤ 1048576) = true := decide_eq_true h4
          rw [decide_eq_true (p := dotP d) ⟨h1, h2, h3, h4⟩]
          go_enter Try.func27, Try.ntmps27
          go_wp2_with fail
          go_ret
          exact ⟨rfl, HB.out⟩
        · have f4 : decide (d.2 ≤ 1048576) = false := decide_eq_false h4
          rw [decide_eq_false (p := dotP d) (fun h => h4 h.2.2.2)]
          go_enter Try.func27, Try.ntmps27
          go_wp2_with fail
          go_ret
          exact ⟨rfl, HB.out⟩
      · have f3 : decide (1 ≤ d.2) = false := decide_eq_false h3
        rw [decide_eq_false (p := dotP d) (fun h => h3 h.2.2.1)]
        go_enter Try.func27, Try.ntmps27
        go_wp2_with fail
        go_ret
        exact ⟨rfl, HB.out⟩
    · have f2 : decide (d.1 < 512) = false := decide_eq_false h2
      rw [decide_eq_false (p := dotP d) (fun h => h2 h.2.1)]
      go_enter Try.func27, Try.ntmps27
      go_wp2_with fail
      go_ret
      exact ⟨rfl, HB.out⟩
  · have f1 : decide (0 ≤ d.1) = false := decide_eq_false h1
    rw [decide_eq_false (p := dotP d) (fun h => h1 h.1)]
    go_enter Try.func27, Try.ntmps27
    go_wp2_with fail
    go_ret
    exact ⟨rfl, HB.out⟩
theorem rFew12_any (a : Option Addr) (len cap : Nat) (w : World) : Calls Try.prog 11 #[.slice a len cap] w fun e w' => e = .returned (.bool (decide (len ≤ 600))) ∧ w' = w := by
  by_cases h : len ≤ 600
  · have f1 : decide ((len : Int) ≤ 600) = true := decide_eq_true (by omega)
    rw [decide_eq_true h]
    go_enter Try.func11, Try.ntmps11
    go_wp2_with fail
    go_ret
    exact ⟨rfl, rfl⟩
  · have f1 : decide ((len : Int) ≤ 600) = false := decide_eq_false (by omega)
    rw [decide_eq_false h]
    go_enter Try.func11, Try.ntmps11
    go_wp2_with fail
    go_ret
    exact ⟨rfl, rfl⟩
end Go.Proofs.Ytfdfaajjlangjaa
