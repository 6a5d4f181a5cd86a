/-
  The walk of ShamirRestores (chartroomlaw08).
-/
import Derived.Test.YtecojpkefobgpaaDoorHp
namespace Go.Proofs.YtecojpkefobgpaaDoor
open Go.RowKit
set_option linter.unusedVariables false
set_option linter.unusedSimpArgs false

set_option maxRecDepth 100000 in
set_option maxHeartbeats 4000000 in
theorem restores_big (secret need many : Int) (h1 : 12 < many) (h2 : many ≤ 64) (K : List UInt8) (a : Option Addr) (n cap : Nat) (w : World) (hT : Tab w) :
    Calls Tryd.prog 3 #[.int .i64 secret, .int .i64 need, .int .i64 many, .agg (bvA K), .slice a n cap] w fun e w' => e = .returned (.bool true) ∧ Below w.heap.size w w' := by
  have HS1 := Lib.hid (SdB.start (K := K) hT)
  have f1 : decide (12 < many) = true := decide_eq_true h1
  have f2 : decide (many ≤ 64) = true := decide_eq_true h2
  clear hT
  go_enter Tryd.func3, Tryd.ntmps3
  go_wp2_with (go_at_call 8; refine (sane8_any _ HS1.out.tab).mono ?_; rintro e w2 ⟨rfl, hb⟩; refine Hid.out ?_)
  refine Lib.hid ?_
  have HS2 := Lib.hid (HS1.out.call hb)
  clear hb HS1
  go_wp2_with fail
  go_ret
  exact ⟨rfl, HS2.out.below⟩

set_option maxRecDepth 100000 in
set_option maxHeartbeats 4000000 in
theorem restores_err (secret need many : Int) (hm : decide (12 < many) = false ∨ (decide (12 < many) = true ∧ decide (many ≤ 64) = false)) (hE : splE secret need many ≠ 0) (K : List UInt8) (hK : K.length = 32) (a : Option Addr) (n cap : Nat) (w : World) (hT : Tab w) :
    Calls Tryd.prog 3 #[.int .i64 secret, .int .i64 need, .int .i64 many, .agg (bvA K), .slice a n cap] w fun e w' => e = .returned (.bool true) ∧ Below w.heap.size w w' := by
  have HS1 := Lib.hid (SdB.start (K := K) hT)
  have HKS := Lib.hid (key_sz _ hK)
  have K1 := Lib.hid (fun W hT => Split_any secret need many K hK W hT)
  rw [splL_no hE] at K1
  obtain ⟨E, hEE⟩ : ∃ E, splE secret need many = E := ⟨_, rfl⟩
  rw [hEE] at K1 hE
  have f3 : (E != 0) = true := by simpa using hE
  clear hT hEE hE
  rcases hm with f1 | ⟨f1, f2⟩
  · go_enter Tryd.func3, Tryd.ntmps3
    go_wp2_with (go_at_call 8; refine (sane8_any _ HS1.out.tab).mono ?_; rintro e w2 ⟨rfl, hb⟩; refine Hid.out ?_)
    refine Lib.hid ?_
    have HS2 := Lib.hid (HS1.out.call hb)
    clear hb HS1
    go_wp2_with (first
      | (refine wpList_load_row rfl 23 (.tmp 8) rfl w.heap.size rfl _ (bvA K) (0, 0) _ HS2.out.key Tryd.underlying23 rfl HKS.out ?_)
      | (go_at_call 9; refine (K1.out _ HS2.out.tab).mono ?_; rintro e w3 ⟨v3, rfl, ho, hb⟩; refine Hid.out ?_))
    refine Lib.hid ?_
    obtain ⟨a3, cap3, rfl, _, _, _, _⟩ := ho.formN 0 rfl
    have HS3 := Lib.hid (HS2.out.call hb)
    clear hb ho
    go_wp2_with fail
    go_ret
    exact ⟨rfl, HS3.out.below⟩
  · go_enter Tryd.func3, Tryd.ntmps3
    go_wp2_with (go_at_call 8; refine (sane8_any _ HS1.out.tab).mono ?_; rintro e w2 ⟨rfl, hb⟩; refine Hid.out ?_)
    refine Lib.hid ?_
    have HS2 := Lib.hid (HS1.out.call hb)
    clear hb HS1
    go_wp2_with (first
      | (refine wpList_load_row rfl 23 (.tmp 8) rfl w.heap.size rfl _ (bvA K) (0, 0) _ HS2.out.key Tryd.underlying23 rfl HKS.out ?_)
      | (go_at_call 9; refine (K1.out _ HS2.out.tab).mono ?_; rintro e w3 ⟨v3, rfl, ho, hb⟩; refine Hid.out ?_))
    refine Lib.hid ?_
    obtain ⟨a3, cap3, rfl, _, _, _, _⟩ := ho.formN 0 rfl
    have HS3 := Lib.hid (HS2.out.call hb)
    clear hb ho
    go_wp2_with fail
    go_ret
    exact ⟨rfl, HS3.out.below⟩

set_option maxRecDepth 100000 in
set_option maxHeartbeats 8000000 in
theorem restores_ok (secret : Int) (N M : Nat) (hs : scal secret = true) (h1 : 1 ≤ N) (h2 : N ≤ M) (h12 : M ≤ 12) (K : List UInt8) (hK : K.length = 32) (a : Option Addr) (cap : Nat) (t : List Bool) (w : World) (hT : Tab w) (ht : RdT w.heap.size w a t) :
    Calls Tryd.prog 3 #[.int .i64 secret, .int .i64 N, .int .i64 M, .agg (bvA K), .slice a t.length cap] w fun e w' => e = .returned (.bool true) ∧ Below w.heap.size w w' := by
  have HS1 := Lib.hid (SdB.start (K := K) hT)
  have HKS := Lib.hid (key_sz _ hK)
  have K1 := Lib.hid (fun W hT => Split_ok secret N M K hK hs h1 h2 (by omega) W hT)
  have f1 : decide (12 < (M : Int)) = false := decide_eq_false (by omega)
  have f4 : decide ((N : Int) < 1) = false := decide_eq_false (by omega)
  have hL := splTo_len (coS K secret (N - 1)) M
  have hLR := restore (K := K) (secret := secret) hs h1 h2 (by omega) (List.Sublist.refl _) (by rw [hL]; exact h2)
  have hCR := fun (h : N ≤ (cho (splTo (coS K secret (N - 1)) M) t).length) => restore (K := K) (secret := secret) hs h1 h2 (by omega) (cho_sub (splTo (coS K secret (N - 1)) M) t) h
  obtain ⟨L, hLL⟩ : ∃ L, splTo (coS K secret (N - 1)) M = L := ⟨_, rfl⟩
  rw [hLL] at K1 hL hLR hCR
  have HKJ : Hid (∀ a cap W, RdS W.heap.size W a L → Calls Tryd.prog 12 #[.slice a M cap] W fun e w' => e = .returned (.tuple #[.int .i64 secret, .int .i64 0]) ∧ Below W.heap.size W w') := Lib.hid (fun a cap W h => by
    have k := Join_any a cap L W h
    rw [hL, hLR.2.1, errV_ok hLR.1] at k
    exact k)
  have HKF : Hid (∀ a cap W, M ≤ cap → cap ≤ maxLen → RdS W.heap.size W a L → Calls Tryd.prog 13 #[.slice a M cap, .int .i64 N] W fun e w' => e = .returned (.tuple #[.bool true, .int .i64 0]) ∧ Below W.heap.size W w') := Lib.hid (fun a cap W h1 h2 h => by
    have k := Fits_any a cap L N W h (by rw [hL]; exact h1) h2
    rw [hL, hLR.2.2.1, hLR.2.2.2] at k
    exact k)
  have HKC : Hid (∀ a cap W, RdS W.heap.size W a L → Calls Tryd.prog 11 #[.slice a M cap] W fun e w' => e = .returned (.int .i64 0) ∧ Below W.heap.size W w') := Lib.hid (fun a cap W h => by
    have k := sCheck_any a cap L W h
    rw [hL, if_pos hLR.1] at k
    exact k)
  have HKH : Hid (∀ a' cap' W, Below w.heap.size w W → RdS W.heap.size W a' L → Calls Tryd.prog 10 #[.slice a' M cap', .slice a t.length cap] W fun e w' => ∃ v, e = .returned v ∧ OwnS W.heap.size w' v (cho L t) ∧ Below W.heap.size W w') := Lib.hid (fun a' cap' W h hr => by
    have k := chosen_any a' cap' L a cap t W hr (ht.call h) (by omega)
    rw [hL] at k
    exact k)
  obtain ⟨q, hq⟩ : ∃ q, (cho L t).length = q := ⟨_, rfl⟩
  rw [hq] at hCR
  have HCR := Lib.hid hCR
  have HQ := Lib.hid hq
  have HML := Lib.hid hL
  generalize t.length = n at *
  clear hT hs hLR hL hLL ht hCR hq
  go_enter Tryd.func3, Tryd.ntmps3
  go_wp2_with (go_at_call 8; refine (sane8_any _ HS1.out.tab).mono ?_; rintro e w2 ⟨rfl, hb⟩; refine Hid.out ?_)
  refine Lib.hid ?_
  have HS2 := Lib.hid (HS1.out.call hb)
  clear hb HS1
  go_wp2_with (first
    | (refine wpList_load_row rfl 23 (.tmp 8) rfl w.heap.size rfl _ (bvA K) (0, 0) _ HS2.out.key Tryd.underlying23 rfl HKS.out ?_)
    | (go_at_call 9; refine (K1.out _ HS2.out.tab).mono ?_; rintro e w3 ⟨v3, rfl, ho, hb⟩; refine Hid.out ?_))
  refine Lib.hid ?_
  obtain ⟨a3, cap3, rfl, hc3, hm3, _, hr3⟩ := ho.formN M HML.out
  have HB3 := Lib.hid (HS2.out.call hb).below
  have HN3 := Lib.hid ((SnB.start w3).add hr3)
  have HC3 := Lib.hid hc3
  have HM3 := Lib.hid hm3
  clear hb ho hr3 HS2 K1 hc3 hm3
  go_wp2_with (go_at_call 10; refine (HKH.out _ _ _ HB3.out (HN3.out.get _ _ (by simp))).mono ?_; rintro e w4 ⟨v4, rfl, ho, hb⟩; refine Hid.out ?_)
  refine Lib.hid ?_
  obtain ⟨a4, cap4, rfl, hc4, hm4, _, hr4⟩ := ho.formN q HQ.out
  have HN4 := Lib.hid ((HN3.out.call hb).add hr4)
  have HC4 := Lib.hid hc4
  have HM4 := Lib.hid hm4
  clear hb ho hr4 HN3 hc4 hm4 HKH
  go_wp2_with (go_at_call 11; refine (HKC.out _ _ _ (HN4.out.get _ _ (by simp))).mono ?_; rintro e w5 ⟨rfl, hb⟩; refine Hid.out ?_)
  refine Lib.hid ?_
  have HN5 := Lib.hid (HN4.out.call hb)
  clear hb HN4 HKC
  go_wp2_with (go_at_call 12; refine (HKJ.out _ _ _ (HN5.out.get _ _ (by simp))).mono ?_; rintro e w6 ⟨rfl, hb⟩; refine Hid.out ?_)
  refine Lib.hid ?_
  have HN6 := Lib.hid (HN5.out.call hb)
  clear hb HN5 HKJ
  go_wp2_with (go_at_call 13; refine (HKF.out _ _ _ HC3.out HM3.out (HN6.out.get _ _ (by simp))).mono ?_; rintro e w7 ⟨rfl, hb⟩; refine Hid.out ?_)
  refine Lib.hid ?_
  have HN7 := Lib.hid (HN6.out.call hb)
  clear hb HN6 HKF
  by_cases hqn : q < N
  · have f5 : decide ((q : Int) < (N : Int)) = true := decide_eq_true (by omega)
    have f5' : decide (q < N) = true := decide_eq_true hqn
    go_wp2_with fail
    go_ret
    exact ⟨rfl, HB3.out.trans (HN7.out.below.mono HB3.out.size)⟩
  · have f5 : decide ((q : Int) < (N : Int)) = false := decide_eq_false (by omega)
    have f5' : decide (q < N) = false := decide_eq_false hqn
    obtain ⟨r1, r2, r3, r4⟩ := HCR.out (by omega)
    have HKJ2 : Hid (∀ a cap W, RdS W.heap.size W a (cho L t) → Calls Tryd.prog 12 #[.slice a q cap] W fun e w' => e = .returned (.tuple #[.int .i64 secret, .int .i64 0]) ∧ Below W.heap.size W w') := Lib.hid (fun a cap W h => by
      have k := Join_any a cap (cho L t) W h
      rw [HQ.out, r2, errV_ok r1] at k
      exact k)
    have HKF2 : Hid (∀ a cap W, q ≤ cap → cap ≤ maxLen → RdS W.heap.size W a (cho L t) → Calls Tryd.prog 13 #[.slice a q cap, .int .i64 N] W fun e w' => e = .returned (.tuple #[.bool true, .int .i64 0]) ∧ Below W.heap.size W w') := Lib.hid (fun a cap W h1 h2 h => by
      have k := Fits_any a cap (cho L t) N W h (by rw [HQ.out]; exact h1) h2
      rw [HQ.out, r3, r4] at k
      exact k)
    clear r1 r2 r3 r4 HCR
    go_wp2_with (go_at_call 12; refine (HKJ2.out _ _ _ (HN7.out.get _ _ (by simp))).mono ?_; rintro e w8 ⟨rfl, hb⟩; refine Hid.out ?_)
    refine Lib.hid ?_
    have HN8 := Lib.hid (HN7.out.call hb)
    clear hb HN7
    go_wp2_with (go_at_call 13; refine (HKF2.out _ _ _ HC4.out HM4.out (HN8.out.get _ _ (by simp))).mono ?_; rintro e w9 ⟨rfl, hb⟩; refine Hid.out ?_)
    refine Lib.hid ?_
    have HN9 := Lib.hid (HN8.out.call hb)
    clear hb HN8
    go_wp2_with fail
    go_ret
    exact ⟨rfl, HB3.out.trans (HN9.out.below.mono HB3.out.size)⟩

theorem restores_walk8 (secret need many : Int) (K : List UInt8) (hK : K.length = 32) (a : Option Addr) (cap : Nat) (t : List Bool) (w : World) (hT : Tab w) (ht : RdT w.heap.size w a t) :
    Calls Tryd.prog 3 #[.int .i64 secret, .int .i64 need, .int .i64 many, .agg (bvA K), .slice a t.length cap] w fun e w' => e = .returned (.bool true) ∧ Below w.heap.size w w' := by
  by_cases hb : 12 < many ∧ many ≤ 64
  · exact restores_big secret need many hb.1 hb.2 K a _ cap w hT
  · by_cases hE : splE secret need many = 0
    · obtain ⟨h1, h2, h3, h4⟩ := splE_zero hE
      obtain ⟨N, rfl⟩ : ∃ N : Nat, need = N := ⟨need.toNat, by omega⟩
      obtain ⟨M, rfl⟩ : ∃ M : Nat, many = M := ⟨many.toNat, by omega⟩
      exact restores_ok secret N M h1 (by omega) (by omega) (by omega) K hK a cap t w hT ht
    · exact restores_err secret need many (many_cases hb) hE K hK a _ cap w hT
end Go.Proofs.YtecojpkefobgpaaDoor
