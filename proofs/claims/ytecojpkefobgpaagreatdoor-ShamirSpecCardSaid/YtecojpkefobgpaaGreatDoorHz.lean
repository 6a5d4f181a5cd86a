/-
  The walks of ShamirSpec and ShamirFitsSpec (chartroomlaw08).
-/
import Derived.Test.YtecojpkefobgpaaGreatDoorHw
import Derived.Test.YtecojpkefobgpaaGreatDoorHy
import Derived.Test.YtecojpkefobgpaaGreatDoorHp
namespace Go.Proofs.YtecojpkefobgpaaGreatDoor
open Go.RowKit
set_option linter.unusedVariables false
set_option linter.unusedSimpArgs false

theorem splL_64 (K : List UInt8) (secret need many : Int) : (splL K secret need many).length ≤ 64 := by
  by_cases h : splE secret need many = 0
  · rw [splL_ok h, splTo_len]
    obtain ⟨h1, h2, h3, h4⟩ := splE_zero h
    omega
  · rw [splL_no h]; exact Nat.zero_le _
theorem sumL_64 (l m : List Sh) : (sumL l m).length ≤ 64 := by
  cases h : (okS l && (okS m && plEq l m))
  · rw [(sumE_bad h).2]; exact Nat.zero_le _
  · rw [(sumE_ok h).2, sumS_len]
    simp only [Bool.and_eq_true] at h
    have := (okS_out h.1).2.1
    omega
/-- Behind the examples: the box of the seed, the tables, the slices of shares that can be read. -/
structure SdR (w : World) (K : List UInt8) (W : World) (rs : List (Option Addr × List Sh)) : Prop where
  sd : SdB w K W
  rd : ∀ p ∈ rs, RdS W.heap.size W p.1 p.2
theorem SdR.call {w W W' : World} {K : List UInt8} {rs : List (Option Addr × List Sh)} (h : SdR w K W rs) (hb : Below W.heap.size W W') : SdR w K W' rs :=
  ⟨h.sd.call hb, fun p hp => (h.rd p hp).call hb⟩
theorem SdR.add {w W : World} {K : List UInt8} {rs : List (Option Addr × List Sh)} (h : SdR w K W rs) {a : Option Addr} {l : List Sh} (hr : RdS W.heap.size W a l) : SdR w K W ((a, l) :: rs) :=
  ⟨h.sd, fun p hp => by
    rcases List.mem_cons.1 hp with rfl | hp
    · exact hr
    · exact h.rd p hp⟩
theorem SdR.get {w W : World} {K : List UInt8} {rs : List (Option Addr × List Sh)} (h : SdR w K W rs) (a : Option Addr) (l : List Sh) (hm : (a, l) ∈ rs) : RdS W.heap.size W a l := h.rd _ hm
theorem SdR.start {w : World} {K : List UInt8} (hT : Tab w) {a : Option Addr} {l : List Sh} (hl : RdS w.heap.size w a l) : SdR w K (w.alloc (.cells (bvA K) 24)) [(a, l)] :=
  ⟨SdB.start hT, fun p hp => by
    rcases List.mem_cons.1 hp with rfl | hp
    · exact hl.call ((Below.refl _ _).alloc (Nat.le_refl _) _)
    · cases hp⟩
theorem Check_err (a : Option Addr) (cap : Nat) (l : List Sh) (w : World) (hl : RdS w.heap.size w a l) :
    Calls Tryz.prog 12 #[.slice a l.length cap] w fun e w' => e = .returned (.int .i64 (errV l)) ∧ Below w.heap.size w w' := sCheck_any a cap l w hl

set_option maxRecDepth 100000 in
set_option maxHeartbeats 8000000 in
theorem spec_walk8 (a : Option Addr) (cap : Nat) (l : List Sh) (secret need many : Int) (K : List UInt8) (hK : K.length = 32) (w : World) (hT : Tab w) (hl : RdS w.heap.size w a l) (hc1 : l.length ≤ cap) (hc2 : cap ≤ maxLen) :
    Calls Tryz.prog 3 #[.slice a l.length cap, .int .i64 secret, .int .i64 need, .int .i64 many, .agg (bvA K)] w fun e w' => e = .returned (.bool true) ∧ Below w.heap.size w w' := by
  have HS1 := Lib.hid (SdR.start (K := K) hT hl)
  have HKS := Lib.hid (key_sz _ hK)
  have KF1 := Lib.hid (fun W => few_any a l.length cap (by omega) W)
  cases hf1 : fewB l.length
  · rw [hf1] at KF1
    clear hl hf1 hT hc1
    generalize l.length = n at *
    go_enter Tryz.func3, Tryz.ntmps3
    go_wp2_with (go_at_call 5; refine (sane8_any _ HS1.out.sd.tab).mono ?_; rintro e w2 ⟨rfl, hb⟩; refine Hid.out ?_)
    refine Lib.hid ?_
    have HS2 := Lib.hid (HS1.out.call hb)
    clear hb HS1
    go_wp2_with (go_at_call 6; with_reducible refine (KF1.out _).mono ?_; rintro e w3 ⟨rfl, hw⟩; rw [hw]; clear hw w3)
    go_ret
    exact ⟨rfl, HS2.out.sd.below⟩
  rw [hf1] at KF1
  by_cases hmm : 12 < many ∧ many ≤ 64
  · have f1 : decide (12 < many) = true := decide_eq_true hmm.1
    have f2 : decide (many ≤ 64) = true := decide_eq_true hmm.2
    clear hl hf1 hT hmm hc1
    generalize l.length = n at *
    go_enter Tryz.func3, Tryz.ntmps3
    go_wp2_with (go_at_call 5; refine (sane8_any _ HS1.out.sd.tab).mono ?_; rintro e w2 ⟨rfl, hb⟩; refine Hid.out ?_)
    refine Lib.hid ?_
    have HS2 := Lib.hid (HS1.out.call hb)
    clear hb HS1
    go_wp2_with (go_at_call 6; with_reducible refine (KF1.out _).mono ?_; rintro e w3 ⟨rfl, hw⟩; rw [hw]; clear hw w3)
    go_ret
    exact ⟨rfl, HS2.out.sd.below⟩
  have hm := many_cases hmm
  have K1 := Lib.hid (fun W hT => Split_any secret need many K hK W hT)
  have K2 := Lib.hid (fun W => rSplit8 secret need many K hK W)
  have h64 := splL_64 K secret need many
  obtain ⟨L, hL⟩ : ∃ L, splL K secret need many = L := ⟨_, rfl⟩
  obtain ⟨E, hE⟩ : ∃ E, splE secret need many = E := ⟨_, rfl⟩
  rw [hL] at K1 K2 h64
  rw [hE] at K1 K2
  obtain ⟨n3, hn3⟩ : ∃ n3, L.length = n3 := ⟨_, rfl⟩
  have KS : Hid (∀ b cb b' cb' W, RdS W.heap.size W b L → RdS W.heap.size W b' L → Calls Tryz.prog 11 #[.slice b n3 cb, .slice b' n3 cb'] W fun e w' => e = .returned (.bool true) ∧ Below W.heap.size W w') := Lib.hid (fun b cb b' cb' W h h' => by
    have k := same8_any b cb L b' cb' L W h h' (by omega)
    rw [sameB_self, hn3] at k
    exact k)
  have HN3 := Lib.hid hn3
  have KJ1 := Lib.hid (fun W h => Join_any a cap l W h)
  have KJ2 := Lib.hid (fun W h => rJoin8 a cap l W h)
  have KC1 := Lib.hid (fun W h => Check_err a cap l W h)
  have KC2 := Lib.hid (fun W h => rCheck8_any a cap l W h)
  generalize joinV l = jv at *
  generalize errV l = ev at *
  clear hl hf1 hT hmm hc1 hL hE hn3 h64
  generalize l.length = n at *
  rcases hm with f1 | ⟨f1, f2⟩
  · go_enter Tryz.func3, Tryz.ntmps3
    go_wp2_with (go_at_call 5; refine (sane8_any _ HS1.out.sd.tab).mono ?_; rintro e w2 ⟨rfl, hb⟩; refine Hid.out ?_)
    refine Lib.hid ?_
    have HS2 := Lib.hid (HS1.out.call hb)
    clear hb HS1
    go_wp2_with (first
      | (go_at_call 6; with_reducible refine (KF1.out _).mono ?_; rintro e w3 ⟨rfl, hw⟩; rw [hw]; clear hw w3)
      | (refine wpList_load_row rfl 24 (.tmp 9) rfl w.heap.size rfl _ (bvA K) (0, 0) _ HS2.out.sd.key Tryz.underlying24 rfl HKS.out ?_)
      | (go_at_call 7; refine (K1.out _ HS2.out.sd.tab).mono ?_; rintro e w3 ⟨v3, rfl, ho, hb⟩; refine Hid.out ?_))
    refine Lib.hid ?_
    obtain ⟨a3, cap3, rfl, _, _, _, hr3⟩ := ho.formN n3 HN3.out
    have HS3 := Lib.hid ((HS2.out.call hb).add hr3)
    clear hb ho hr3 HS2 K1 KF1
    go_wp2_with (first
      | (refine wpList_load_row rfl 24 (.tmp 9) rfl w.heap.size rfl _ (bvA K) (0, 0) _ HS3.out.sd.key Tryz.underlying24 rfl HKS.out ?_)
      | (go_at_call 8; refine (K2.out _).mono ?_; rintro e w4 ⟨v4, rfl, ho, hb⟩; refine Hid.out ?_))
    refine Lib.hid ?_
    obtain ⟨a4, cap4, rfl, _, _, _, hr4⟩ := ho.formN n3 HN3.out
    have HS4 := Lib.hid ((HS3.out.call hb).add hr4)
    clear hb ho hr4 HS3 K2 HKS
    go_wp2_with (go_at_call 9; refine (KJ1.out _ (HS4.out.get _ _ (by simp))).mono ?_; rintro e hs5 ⟨rfl, hb⟩; refine Hid.out ?_)
    refine Lib.hid ?_
    have HS5 := Lib.hid (HS4.out.call hb)
    clear hb HS4 KJ1
    go_wp2_with (go_at_call 10; refine (KJ2.out _ (HS5.out.get _ _ (by simp))).mono ?_; rintro e hs6 ⟨rfl, hb⟩; refine Hid.out ?_)
    refine Lib.hid ?_
    have HS6 := Lib.hid (HS5.out.call hb)
    clear hb HS5 KJ2
    go_wp2_with (go_at_call 11; refine (KS.out _ _ _ _ _ (HS6.out.get _ _ (by simp)) (HS6.out.get _ _ (by simp))).mono ?_; rintro e hs7 ⟨rfl, hb⟩; refine Hid.out ?_)
    refine Lib.hid ?_
    have HS7 := Lib.hid (HS6.out.call hb)
    clear hb HS6 KS
    go_wp2_with (go_at_call 12; refine (KC1.out _ (HS7.out.get _ _ (by simp))).mono ?_; rintro e hs8 ⟨rfl, hb⟩; refine Hid.out ?_)
    refine Lib.hid ?_
    have HS8 := Lib.hid (HS7.out.call hb)
    clear hb HS7 KC1
    go_wp2_with (go_at_call 13; refine (KC2.out _ (HS8.out.get _ _ (by simp))).mono ?_; rintro e hs9 ⟨rfl, hb⟩; refine Hid.out ?_)
    refine Lib.hid ?_
    have HS9 := Lib.hid (HS8.out.call hb)
    clear hb HS8 KC2
    go_wp2_with fail
    go_ret
    exact ⟨rfl, HS9.out.sd.below⟩
  · go_enter Tryz.func3, Tryz.ntmps3
    go_wp2_with (go_at_call 5; refine (sane8_any _ HS1.out.sd.tab).mono ?_; rintro e w2 ⟨rfl, hb⟩; refine Hid.out ?_)
    refine Lib.hid ?_
    have HS2 := Lib.hid (HS1.out.call hb)
    clear hb HS1
    go_wp2_with (first
      | (go_at_call 6; with_reducible refine (KF1.out _).mono ?_; rintro e w3 ⟨rfl, hw⟩; rw [hw]; clear hw w3)
      | (refine wpList_load_row rfl 24 (.tmp 9) rfl w.heap.size rfl _ (bvA K) (0, 0) _ HS2.out.sd.key Tryz.underlying24 rfl HKS.out ?_)
      | (go_at_call 7; refine (K1.out _ HS2.out.sd.tab).mono ?_; rintro e w3 ⟨v3, rfl, ho, hb⟩; refine Hid.out ?_))
    refine Lib.hid ?_
    obtain ⟨a3, cap3, rfl, _, _, _, hr3⟩ := ho.formN n3 HN3.out
    have HS3 := Lib.hid ((HS2.out.call hb).add hr3)
    clear hb ho hr3 HS2 K1 KF1
    go_wp2_with (first
      | (refine wpList_load_row rfl 24 (.tmp 9) rfl w.heap.size rfl _ (bvA K) (0, 0) _ HS3.out.sd.key Tryz.underlying24 rfl HKS.out ?_)
      | (go_at_call 8; refine (K2.out _).mono ?_; rintro e w4 ⟨v4, rfl, ho, hb⟩; refine Hid.out ?_))
    refine Lib.hid ?_
    obtain ⟨a4, cap4, rfl, _, _, _, hr4⟩ := ho.formN n3 HN3.out
    have HS4 := Lib.hid ((HS3.out.call hb).add hr4)
    clear hb ho hr4 HS3 K2 HKS
    go_wp2_with (go_at_call 9; refine (KJ1.out _ (HS4.out.get _ _ (by simp))).mono ?_; rintro e hs5 ⟨rfl, hb⟩; refine Hid.out ?_)
    refine Lib.hid ?_
    have HS5 := Lib.hid (HS4.out.call hb)
    clear hb HS4 KJ1
    go_wp2_with (go_at_call 10; refine (KJ2.out _ (HS5.out.get _ _ (by simp))).mono ?_; rintro e hs6 ⟨rfl, hb⟩; refine Hid.out ?_)
    refine Lib.hid ?_
    have HS6 := Lib.hid (HS5.out.call hb)
    clear hb HS5 KJ2
    go_wp2_with (go_at_call 11; refine (KS.out _ _ _ _ _ (HS6.out.get _ _ (by simp)) (HS6.out.get _ _ (by simp))).mono ?_; rintro e hs7 ⟨rfl, hb⟩; refine Hid.out ?_)
    refine Lib.hid ?_
    have HS7 := Lib.hid (HS6.out.call hb)
    clear hb HS6 KS
    go_wp2_with (go_at_call 12; refine (KC1.out _ (HS7.out.get _ _ (by simp))).mono ?_; rintro e hs8 ⟨rfl, hb⟩; refine Hid.out ?_)
    refine Lib.hid ?_
    have HS8 := Lib.hid (HS7.out.call hb)
    clear hb HS7 KC1
    go_wp2_with (go_at_call 13; refine (KC2.out _ (HS8.out.get _ _ (by simp))).mono ?_; rintro e hs9 ⟨rfl, hb⟩; refine Hid.out ?_)
    refine Lib.hid ?_
    have HS9 := Lib.hid (HS8.out.call hb)
    clear hb HS8 KC2
    go_wp2_with fail
    go_ret
    exact ⟨rfl, HS9.out.sd.below⟩

set_option maxRecDepth 100000 in
set_option maxHeartbeats 8000000 in
theorem fspec_walk8 (a : Option Addr) (cap : Nat) (l : List Sh) (a' : Option Addr) (cap' : Nat) (m : List Sh) (need : Int) (w : World) (hT : Tab w)
    (hl : RdS w.heap.size w a l) (hc1 : l.length ≤ cap) (hc2 : cap ≤ maxLen) (hm : RdS w.heap.size w a' m) (hd1 : m.length ≤ cap') (hd2 : cap' ≤ maxLen) :
    Calls Tryz.prog 4 #[.slice a l.length cap, .slice a' m.length cap', .int .i64 need] w fun e w' => e = .returned (.bool true) ∧ Below w.heap.size w w' := by
  have HT := Lib.hid hT
  have HS1 := Lib.hid (((SnB.start w).add hl).add hm)
  have KF1 := Lib.hid (fun W => few_any a l.length cap (by omega) W)
  have KF2 := Lib.hid (fun W => few_any a' m.length cap' (by omega) W)
  cases hf1 : fewB l.length
  · rw [hf1] at KF1
    clear hl hm hf1 hT hc1 hd1
    generalize l.length = n at *
    generalize m.length = n' at *
    go_enter Tryz.func4, Tryz.ntmps4
    go_wp2_with (go_at_call 5; refine (sane8_any _ HT.out).mono ?_; rintro e w2 ⟨rfl, hb⟩; refine Hid.out ?_)
    refine Lib.hid ?_
    have HS2 := Lib.hid (HS1.out.call hb)
    clear hb HS1
    go_wp2_with (go_at_call 6; with_reducible refine (KF1.out _).mono ?_; rintro e w3 ⟨rfl, hw⟩; rw [hw]; clear hw w3)
    go_ret
    exact ⟨rfl, HS2.out.below⟩
  rw [hf1] at KF1
  cases hf2 : fewB m.length
  · rw [hf2] at KF2
    clear hl hm hf1 hf2 hT hc1 hd1
    generalize l.length = n at *
    generalize m.length = n' at *
    go_enter Tryz.func4, Tryz.ntmps4
    go_wp2_with (go_at_call 5; refine (sane8_any _ HT.out).mono ?_; rintro e w2 ⟨rfl, hb⟩; refine Hid.out ?_)
    refine Lib.hid ?_
    have HS2 := Lib.hid (HS1.out.call hb)
    clear hb HS1
    go_wp2_with (first
      | (go_at_call 6; with_reducible refine (KF1.out _).mono ?_; rintro e w3 ⟨rfl, hw⟩; rw [hw]; clear hw w3)
      | (go_at_call 6; with_reducible refine (KF2.out _).mono ?_; rintro e w3 ⟨rfl, hw⟩; rw [hw]; clear hw w3))
    go_ret
    exact ⟨rfl, HS2.out.below⟩
  rw [hf2] at KF2
  have K1 := Lib.hid (fun W (h1 : RdS W.heap.size W a l) (h2 : RdS W.heap.size W a' m) => Sum_any a cap l a' cap' m W h1 h2)
  have K2 := Lib.hid (fun W (h1 : RdS W.heap.size W a l) (h2 : RdS W.heap.size W a' m) => rSum8 a cap l a' cap' m W h1 h2)
  have h64 := sumL_64 l m
  obtain ⟨L, hL⟩ : ∃ L, sumL l m = L := ⟨_, rfl⟩
  obtain ⟨E, hE⟩ : ∃ E, sumE l m = E := ⟨_, rfl⟩
  rw [hL] at K1 K2 h64
  rw [hE] at K1 K2
  obtain ⟨n3, hn3⟩ : ∃ n3, L.length = n3 := ⟨_, rfl⟩
  have KS : Hid (∀ b cb b' cb' W, RdS W.heap.size W b L → RdS W.heap.size W b' L → Calls Tryz.prog 11 #[.slice b n3 cb, .slice b' n3 cb'] W fun e w' => e = .returned (.bool true) ∧ Below W.heap.size W w') := Lib.hid (fun b cb b' cb' W h h' => by
    have k := same8_any b cb L b' cb' L W h h' (by omega)
    rw [sameB_self, hn3] at k
    exact k)
  have HN3 := Lib.hid hn3
  have KJ1 := Lib.hid (fun W h => Fits_any a cap l need W h hc1 hc2)
  have KJ2 := Lib.hid (fun W h => rFits8 a cap l need W h hc1 hc2)
  generalize fitB l need = fb at *
  generalize fitE l need = fe at *
  clear hl hm hf1 hf2 hT hc1 hd1 hL hE hn3 h64
  generalize l.length = n at *
  generalize m.length = n' at *
  go_enter Tryz.func4, Tryz.ntmps4
  go_wp2_with (go_at_call 5; refine (sane8_any _ HT.out).mono ?_; rintro e w2 ⟨rfl, hb⟩; refine Hid.out ?_)
  refine Lib.hid ?_
  have HS2 := Lib.hid (HS1.out.call hb)
  clear hb HS1
  go_wp2_with (first
    | (go_at_call 6; with_reducible refine (KF1.out _).mono ?_; rintro e w3 ⟨rfl, hw⟩; rw [hw]; clear hw w3)
    | (go_at_call 6; with_reducible refine (KF2.out _).mono ?_; rintro e w3 ⟨rfl, hw⟩; rw [hw]; clear hw w3)
    | (go_at_call 14; refine (KJ1.out _ (HS2.out.get _ _ (by simp))).mono ?_; rintro e w3 ⟨rfl, hb⟩; refine Hid.out ?_))
  refine Lib.hid ?_
  have HS3 := Lib.hid (HS2.out.call hb)
  clear hb HS2 KF1 KF2 KJ1
  go_wp2_with (go_at_call 15; refine (KJ2.out _ (HS3.out.get _ _ (by simp))).mono ?_; rintro e hs4 ⟨rfl, hb⟩; refine Hid.out ?_)
  refine Lib.hid ?_
  have HS4 := Lib.hid (HS3.out.call hb)
  clear hb HS3 KJ2
  go_wp2_with (go_at_call 16; refine (K1.out _ (HS4.out.get _ _ (by simp)) (HS4.out.get _ _ (by simp))).mono ?_; rintro e w5 ⟨v5, rfl, ho, hb⟩; refine Hid.out ?_)
  refine Lib.hid ?_
  obtain ⟨a5, cap5, rfl, _, _, _, hr5⟩ := ho.formN n3 HN3.out
  have HS5 := Lib.hid ((HS4.out.call hb).add hr5)
  clear hb ho hr5 HS4 K1
  go_wp2_with (go_at_call 17; refine (K2.out _ (HS5.out.get _ _ (by simp)) (HS5.out.get _ _ (by simp))).mono ?_; rintro e w6 ⟨v6, rfl, ho, hb⟩; refine Hid.out ?_)
  refine Lib.hid ?_
  obtain ⟨a6, cap6, rfl, _, _, _, hr6⟩ := ho.formN n3 HN3.out
  have HS6 := Lib.hid ((HS5.out.call hb).add hr6)
  clear hb ho hr6 HS5 K2
  go_wp2_with (go_at_call 11; refine (KS.out _ _ _ _ _ (HS6.out.get _ _ (by simp)) (HS6.out.get _ _ (by simp))).mono ?_; rintro e hs7 ⟨rfl, hb⟩; refine Hid.out ?_)
  refine Lib.hid ?_
  have HS7 := Lib.hid (HS6.out.call hb)
  clear hb HS6 KS
  cases fb <;>
    (go_wp2_with fail
     go_ret
     exact ⟨rfl, HS7.out.below⟩)
end Go.Proofs.YtecojpkefobgpaaGreatDoor
