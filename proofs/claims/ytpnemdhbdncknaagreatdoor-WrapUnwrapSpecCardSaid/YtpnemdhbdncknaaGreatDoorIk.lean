/-
  The statements of wrap: Few; the bytes of a number; the key.
-/
import Derived.Test.YtpnemdhbdncknaaGreatDoorIj
namespace Go.Proofs.YtpnemdhbdncknaaGreatDoor
open Go.RowKit
set_option linter.unusedVariables false
set_option linter.unusedSimpArgs false

/-- The sum of the lengths of the first k slices. -/
def sumF (L : List (Option Addr × Nat × Nat)) (k : Nat) : Nat := ((L.take k).map fun x => x.2.1).sum
theorem sumF_succ (L : List (Option Addr × Nat × Nat)) (k : Nat) (h : k < L.length) : sumF L (k + 1) = sumF L k + L[k].2.1 := by
  unfold sumF
  rw [List.take_succ_eq_append_getElem h, List.map_append, List.sum_append]
  rfl
theorem sumF_le (L : List (Option Addr × Nat × Nat)) (M : Nat) (hq : ∀ x ∈ L, x.2.1 ≤ M) (k : Nat) : k ≤ L.length → sumF L k ≤ k * M := by
  induction k with
  | zero => intro _; simp [sumF]
  | succ k ih =>
    intro h
    rw [sumF_succ L k (by omega), Nat.succ_mul]
    have := ih (by omega)
    have := hq L[k] (List.getElem_mem _)
    omega
set_option maxRecDepth 100000 in
set_option maxHeartbeats 800000 in
theorem Few_any (g : Nat) (L : List (Option Addr × Nat × Nat)) (w : World) (hc : ∀ j (h : j < L.length), w.cell? ⟨g, j, none⟩ = some (.slice L[j].1 L[j].2.1 L[j].2.2)) (hn : L.length ≤ 2) (hq : ∀ x ∈ L, x.2.1 ≤ 1125899906842624) :
    Calls Tryz.prog 6 #[.slice (some ⟨g, 0, none⟩) L.length L.length] w fun e w' => e = .returned (.bool (decide (sumF L L.length ≤ 600))) ∧ w' = w := by
  have HC := Lib.hid hc
  have HS := Lib.hid (fun k h => sumF_succ L k h)
  have HLE := Lib.hid (fun k h => sumF_le L 1125899906842624 hq k h)
  have H0 : Hid (sumF L 0 = 0) := Lib.hid (by simp [sumF])
  have HLQ := Lib.hid (fun j (h : j < L.length) => hq L[j] (List.getElem_mem _))
  obtain ⟨T, hT⟩ : ∃ T, sumF L L.length = T := ⟨_, rfl⟩
  have HT := Lib.hid hT
  rw [hT]
  obtain ⟨n, hnn⟩ : ∃ n, L.length = n := ⟨_, rfl⟩
  have HN := Lib.hid hnn
  rw [hnn] at HT hn ⊢
  clear hc hq hT hnn
  go_enter Tryz.func6, Tryz.ntmps6
  go_wp2_with fail
  go_loopw [3, 4] (fun s i wr => wr = w ∧ ∃ k : Nat, k ≤ n ∧ i = .int .i64 k ∧ s = .int .i64 (sumF L k : Nat)) (fun _ i _ => n - (intOf i).toNat)
  case atStart => exact ⟨rfl, 0, by omega, rfl, by rw [H0.out]; rfl⟩
  case round =>
    obtain ⟨rfl, k, hk, rfl, rfl⟩ := hrel
    by_cases hlt : k < n
    · have f1 : decide ((k : Int) < (n : Int)) = true := decide_eq_true (by omega)
      have hkl : k < L.length := by rw [HN.out]; exact hlt
      have ck := HC.out k hkl
      have hs := HS.out k hkl
      have hl := HLE.out k (by omega)
      have hq := HLQ.out k hkl
      generalize L[k] = x at *
      obtain ⟨x1, x2, x3⟩ := x
      obtain ⟨s, hs0⟩ : ∃ s, sumF L k = s := ⟨_, rfl⟩
      rw [hs0] at hs hl ⊢
      have HSU := Lib.hid hs
      have i1 : (s : Int) ≤ 2251799813685248 := by omega
      have i2 : (x2 : Int) ≤ 1125899906842624 := by have : x2 ≤ 1125899906842624 := hq; omega
      clear hs hl hq hs0 hkl
      go_wp2_with fail
      go_roundw
      case rel => exact ⟨trivial, k + 1, by omega, by go_num, by rw [HSU.out]; go_num⟩
      case measure => simp [intOf]; omega
    · obtain rfl : k = n := by omega
      rw [HT.out]
      have f1 : decide ((k : Int) < (k : Int)) = false := decide_eq_false (by omega)
      have f2 : decide ((T : Int) ≤ 600) = decide (T ≤ 600) := decide_eq_decide.2 (by omega)
      go_wp2_with fail
      go_ret
      exact ⟨by first | rfl | (rw [f2]; rfl), rfl⟩
theorem few1_any (a : Option Addr) (p c : Nat) (hp : p ≤ 1125899906842624) (g : Nat) (w : World) (T : TypeId) (h : CB w g T #[.slice a p c]) :
    Calls Tryz.prog 6 #[.slice (some ⟨g, 0, none⟩) 1 1] w fun e w' => e = .returned (.bool (decide (p ≤ 600))) ∧ w' = w := by
  have k := Few_any g [(a, p, c)] w (fun j hj => by
    obtain rfl : j = 0 := by simp at hj; omega
    exact h.cell 0) (by simp) (by simpa using hp)
  have e : sumF [(a, p, c)] 1 = p := by simp [sumF]
  exact (show decide (sumF [(a, p, c)] [(a, p, c)].length ≤ 600) = decide (p ≤ 600) by rw [show [(a, p, c)].length = 1 from rfl, e]) ▸ k
theorem few2_any (a : Option Addr) (p c : Nat) (b : Option Addr) (q d : Nat) (hp : p ≤ 1125899906842624) (hq : q ≤ 1125899906842624) (g : Nat) (w : World) (T : TypeId) (h : CB w g T #[.slice a p c, .slice b q d]) :
    Calls Tryz.prog 6 #[.slice (some ⟨g, 0, none⟩) 2 2] w fun e w' => e = .returned (.bool (decide (p + q ≤ 600))) ∧ w' = w := by
  have k := Few_any g [(a, p, c), (b, q, d)] w (fun j hj => by
    obtain rfl | rfl : j = 0 ∨ j = 1 := by simp at hj; omega
    · exact h.cell 0
    · exact h.cell 1) (by simp) (by simpa using ⟨hp, hq⟩)
  have e : sumF [(a, p, c), (b, q, d)] 2 = p + q := by simp [sumF]
  exact (show decide (sumF [(a, p, c), (b, q, d)] [(a, p, c), (b, q, d)].length ≤ 600) = decide (p + q ≤ 600) by rw [show [(a, p, c), (b, q, d)].length = 2 from rfl, e]) ▸ k

end Go.Proofs.YtpnemdhbdncknaaGreatDoor
