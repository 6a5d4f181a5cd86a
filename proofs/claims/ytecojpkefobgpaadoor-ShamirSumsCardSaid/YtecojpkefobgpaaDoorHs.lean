/-
  The walk of ShamirSums (chartroomlaw08).
-/
import Derived.Test.YtecojpkefobgpaaDoorHo
namespace Go.Proofs.YtecojpkefobgpaaDoor
open Go.RowKit
set_option linter.unusedVariables false
set_option linter.unusedSimpArgs false

theorem fit_sums {l m : List Sh} {need : Int} (h1 : okS l = true) (h2 : okS m = true) (h3 : plEq l m = true) :
    fitE m need = fitE l need ∧ fitE (sumS l m) need = fitE l need ∧ (fitB l need = true → fitB m need = true → fitB (sumS l m) need = true) := by
  have h4 := sum_ok h1 h2 h3
  refine ⟨by unfold fitE; rw [h1, h2], by unfold fitE; rw [h1, h4], fun f1 f2 => ?_⟩
  unfold fitB at f1 f2 ⊢
  rw [h1] at f1
  rw [h2] at f2
  rw [h4]
  by_cases e : (decide (1 ≤ need) && decide (need ≤ 64)) = true
  · rw [Bool.true_and, if_pos e] at f1 f2 ⊢
    exact sum_fits h1 h2 h3 f1 f2
  · rw [Bool.true_and, if_neg e] at f1
    cases f1
set_option maxRecDepth 100000 in
set_option maxHeartbeats 8000000 in
theorem sums_walk8 (a : Option Addr) (cap : Nat) (l : List Sh) (a' : Option Addr) (cap' : Nat) (m : List Sh) (need : Int) (w : World) (hT : Tab w)
    (hl : RdS w.heap.size w a l) (hc1 : l.length ≤ cap) (hc2 : cap ≤ maxLen) (hm : RdS w.heap.size w a' m) (hd1 : m.length ≤ cap') (hd2 : cap' ≤ maxLen) :
    Calls Tryd.prog 6 #[.slice a l.length cap, .slice a' m.length cap', .int .i64 need] w fun e w' => e = .returned (.bool true) ∧ Below w.heap.size w w' := by
  have HT := Lib.hid hT
  have HS1 := Lib.hid (((SnB.start w).add hl).add hm)
  have HC := Lib.hid (And.intro hc1 hc2)
  have HD := Lib.hid (And.intro hd1 hd2)
  have KF1 := Lib.hid (fun W => few_any a l.length cap (by unfold maxLen at hc2 ⊢; omega) W)
  have KF2 := Lib.hid (fun W => few_any a' m.length cap' (by unfold maxLen at hd2 ⊢; omega) W)
  cases hf1 : fewB l.length
  · rw [hf1] at KF1
    clear hl hm hf1 hT
    generalize l.length = n at *
    generalize m.length = n' at *
    go_enter Tryd.func6, Tryd.ntmps6
    go_wp2_with (go_at_call 8; refine (sane8_any _ HT.out).mono ?_; rintro e w2 ⟨rfl, hb⟩; refine Hid.out ?_)
    refine Lib.hid ?_
    have HB2 := Lib.hid hb
    clear hb
    go_wp2_with (go_at_call 19; refine (KF1.out _).mono ?_; rintro e w3 ⟨rfl, hw⟩; rw [hw]; clear hw w3)
    go_ret
    exact ⟨rfl, HB2.out⟩
  rw [hf1] at KF1
  cases hf2 : fewB m.length
  · rw [hf2] at KF2
    clear hl hm hf1 hf2 hT
    generalize l.length = n at *
    generalize m.length = n' at *
    go_enter Tryd.func6, Tryd.ntmps6
    go_wp2_with (go_at_call 8; refine (sane8_any _ HT.out).mono ?_; rintro e w2 ⟨rfl, hb⟩; refine Hid.out ?_)
    refine Lib.hid ?_
    have HB2 := Lib.hid hb
    clear hb
    go_wp2_with (first
      | (go_at_call 19; with_reducible refine (KF1.out _).mono ?_; rintro e w3 ⟨rfl, hw⟩; rw [hw]; clear hw w3)
      | (go_at_call 19; with_reducible refine (KF2.out _).mono ?_; rintro e w3 ⟨rfl, hw⟩; rw [hw]; clear hw w3))
    go_ret
    exact ⟨rfl, HB2.out⟩
  rw [hf2] at KF2
  have KS := Lib.hid (fun W (h1 : RdS W.heap.size W a l) (h2 : RdS W.heap.size W a' m) => Sum_any a cap l a' cap' m W h1 h2)
  cases hok : (okS l && (okS m && plEq l m))
  · rw [(sumE_bad hok).1, (sumE_bad hok).2] at KS
    have HLN := Lib.hid (show l.length = l.length from rfl)
    clear hl hm hf1 hf2 hT hok
    generalize l.length = n at *
    generalize m.length = n' at *
    go_enter Tryd.func6, Tryd.ntmps6
    go_wp2_with (go_at_call 8; refine (sane8_any _ HT.out).mono ?_; rintro e w2 ⟨rfl, hb⟩; refine Hid.out ?_)
    refine Lib.hid ?_
    have HS2 := Lib.hid (HS1.out.call hb)
    clear hb
    go_wp2_with (first
      | (go_at_call 19; with_reducible refine (KF1.out _).mono ?_; rintro e w3 ⟨rfl, hw⟩; rw [hw]; clear hw w3)
      | (go_at_call 19; with_reducible refine (KF2.out _).mono ?_; rintro e w3 ⟨rfl, hw⟩; rw [hw]; clear hw w3)
      | (go_at_call 20; refine (KS.out _ (HS2.out.get _ _ (by simp)) (HS2.out.get _ _ (by simp))).mono ?_; rintro e w4 ⟨v4, rfl, ho, hb⟩; refine Hid.out ?_))
    refine Lib.hid ?_
    obtain ⟨a4, cap4, rfl, _, _, _, _⟩ := ho.formN 0 rfl
    have HS4 := Lib.hid (HS2.out.call hb)
    clear hb ho
    go_wp2_with fail
    go_ret
    exact ⟨rfl, HS4.out.below⟩
  · rw [(sumE_ok hok).1, (sumE_ok hok).2] at KS
    simp only [Bool.and_eq_true] at hok
    obtain ⟨o1, o2, o3⟩ := hok
    have o4 := sum_ok o1 o2 o3
    have hsl : (sumS l m).length = l.length := by rw [sumS_len]; have := plEq_len o3; omega
    have KJ1 : Hid (∀ W, RdS W.heap.size W a l → Calls Tryd.prog 12 #[.slice a l.length cap] W fun e w' => e = .returned (.tuple #[.int .i64 (joinV l : Nat), .int .i64 0]) ∧ Below W.heap.size W w') := Lib.hid (fun W h => by
      have k := Join_any a cap l W h
      rw [errV_ok o1] at k
      exact k)
    have KJ2 : Hid (∀ W, RdS W.heap.size W a' m → Calls Tryd.prog 12 #[.slice a' m.length cap'] W fun e w' => e = .returned (.tuple #[.int .i64 (joinV m : Nat), .int .i64 0]) ∧ Below W.heap.size W w') := Lib.hid (fun W h => by
      have k := Join_any a' cap' m W h
      rw [errV_ok o2] at k
      exact k)
    have KJ3 : Hid (∀ a cap W, RdS W.heap.size W a (sumS l m) → Calls Tryd.prog 12 #[.slice a l.length cap] W fun e w' => e = .returned (.tuple #[.int .i64 ((joinV l + joinV m) % 2305843009213688669 : Nat), .int .i64 0]) ∧ Below W.heap.size W w') := Lib.hid (fun a cap W h => by
      have k := Join_any a cap (sumS l m) W h
      rw [errV_ok o4, hsl, sum_join o1 o2 o3] at k
      exact k)
    have KA := Lib.hid (fun W => fAdd (joinV l) (joinV m) (joinV_lt l) (joinV_lt m) W)
    obtain ⟨g1, g2, g3⟩ := fit_sums (need := need) o1 o2 o3
    have KT1 := Lib.hid (fun W (h : RdS W.heap.size W a l) => Fits_any a cap l need W h HC.out.1 HC.out.2)
    have KT2 := Lib.hid (fun W (h : RdS W.heap.size W a' m) => Fits_any a' cap' m need W h HD.out.1 HD.out.2)
    rw [g1] at KT2
    have KT3 : Hid (∀ a cap W, l.length ≤ cap → cap ≤ maxLen → RdS W.heap.size W a (sumS l m) → Calls Tryd.prog 13 #[.slice a l.length cap, .int .i64 need] W fun e w' => e = .returned (.tuple #[.bool (fitB (sumS l m) need), .int .i64 (fitE l need)]) ∧ Below W.heap.size W w') := Lib.hid (fun a cap W h1 h2 h => by
      have k := Fits_any a cap (sumS l m) need W h (by rw [hsl]; exact h1) h2
      rw [hsl, g2] at k
      exact k)
    have HSL := Lib.hid hsl
    have HG3 := Lib.hid g3
    clear hl hm hf1 hf2 hT o1 o2 o3 o4 hsl g1 g2 g3 hc1 hc2 hd1 hd2 HC HD
    generalize fitE l need = F at *
    obtain ⟨S, hS⟩ : ∃ S, sumS l m = S := ⟨_, rfl⟩
    rw [hS] at KS KJ3 KT3 HSL HG3
    clear hS
    generalize (joinV l + joinV m) % 2305843009213688669 = js at *
    generalize joinV l = jl at *
    generalize joinV m = jm at *
    generalize fitB l need = x at *
    generalize fitB m need = y at *
    generalize fitB S need = z at *
    generalize l.length = n at *
    generalize m.length = n' at *
    go_enter Tryd.func6, Tryd.ntmps6
    go_wp2_with (go_at_call 8; refine (sane8_any _ HT.out).mono ?_; rintro e w2 ⟨rfl, hb⟩; refine Hid.out ?_)
    refine Lib.hid ?_
    have HS2 := Lib.hid (HS1.out.call hb)
    clear hb HS1
    go_wp2_with (first
      | (go_at_call 19; with_reducible refine (KF1.out _).mono ?_; rintro e w3 ⟨rfl, hw⟩; rw [hw]; clear hw w3)
      | (go_at_call 19; with_reducible refine (KF2.out _).mono ?_; rintro e w3 ⟨rfl, hw⟩; rw [hw]; clear hw w3)
      | (go_at_call 20; refine (KS.out _ (HS2.out.get _ _ (by simp)) (HS2.out.get _ _ (by simp))).mono ?_; rintro e w4 ⟨v4, rfl, ho, hb⟩; refine Hid.out ?_))
    refine Lib.hid ?_
    obtain ⟨a4, cap4, rfl, hc4, hm4, _, hr4⟩ := ho.formN n HSL.out
    have HS4 := Lib.hid ((HS2.out.call hb).add hr4)
    have HC4 := Lib.hid (And.intro hc4 hm4)
    clear hb ho hr4 HS2 hc4 hm4 KS KF1 KF2
    go_wp2_with (go_at_call 12; refine (KJ1.out _ (HS4.out.get _ _ (by simp))).mono ?_; rintro e w5 ⟨rfl, hb⟩; refine Hid.out ?_)
    refine Lib.hid ?_
    have HS5 := Lib.hid (HS4.out.call hb)
    clear hb HS4 KJ1
    go_wp2_with (go_at_call 12; refine (KJ2.out _ (HS5.out.get _ _ (by simp))).mono ?_; rintro e w6 ⟨rfl, hb⟩; refine Hid.out ?_)
    refine Lib.hid ?_
    have HS6 := Lib.hid (HS5.out.call hb)
    clear hb HS5 KJ2
    go_wp2_with (go_at_call 12; refine (KJ3.out _ _ _ (HS6.out.get _ _ (by simp))).mono ?_; rintro e w7 ⟨rfl, hb⟩; refine Hid.out ?_)
    refine Lib.hid ?_
    have HS7 := Lib.hid (HS6.out.call hb)
    clear hb HS6 KJ3
    go_wp2_with (go_at_call 21; refine (KA.out _).mono ?_; rintro e w8 ⟨rfl, hb⟩; refine Hid.out ?_)
    refine Lib.hid ?_
    have HS8 := Lib.hid (HS7.out.call hb)
    clear hb HS7 KA
    go_wp2_with (go_at_call 13; refine (KT1.out _ (HS8.out.get _ _ (by simp))).mono ?_; rintro e w9 ⟨rfl, hb⟩; refine Hid.out ?_)
    refine Lib.hid ?_
    have HS9 := Lib.hid (HS8.out.call hb)
    clear hb HS8 KT1
    go_wp2_with (go_at_call 13; refine (KT2.out _ (HS9.out.get _ _ (by simp))).mono ?_; rintro e u1 ⟨rfl, hb⟩; refine Hid.out ?_)
    refine Lib.hid ?_
    have HU1 := Lib.hid (HS9.out.call hb)
    clear hb HS9 KT2
    go_wp2_with (go_at_call 13; refine (KT3.out _ _ _ HC4.out.1 HC4.out.2 (HU1.out.get _ _ (by simp))).mono ?_; rintro e u2 ⟨rfl, hb⟩; refine Hid.out ?_)
    refine Lib.hid ?_
    have HU2 := Lib.hid (HU1.out.call hb)
    clear hb HU1 KT3
    cases x
    · go_wp2_with fail
      go_ret
      exact ⟨rfl, HU2.out.below⟩
    · cases y
      · go_wp2_with fail
        go_ret
        exact ⟨rfl, HU2.out.below⟩
      · obtain rfl := HG3.out rfl rfl
        go_wp2_with fail
        go_ret
        exact ⟨rfl, HU2.out.below⟩
end Go.Proofs.YtecojpkefobgpaaDoor
