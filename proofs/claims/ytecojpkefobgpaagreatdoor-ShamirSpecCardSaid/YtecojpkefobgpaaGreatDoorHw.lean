/-
  The reference's Coefficients and Split.
-/
import Derived.Test.YtecojpkefobgpaaGreatDoorHn
import Derived.Test.YtecojpkefobgpaaGreatDoorDk
import Derived.Test.YtecojpkefobgpaaGreatDoorFs
namespace Go.Proofs.YtecojpkefobgpaaGreatDoor
open Go.RowKit
set_option linter.unusedVariables false
set_option linter.unusedSimpArgs false

/-- Drawing one. -/
theorem rdraw_any (K : List UInt8) (hK : K.length = 32) (i : Nat) (hi : i ≤ 1000) (W : World) (a : Option Addr) (cap : Nat) (hr : RdM W.heap.size W a [(i : Int)]) :
    Calls Tryz.prog 35 #[.agg (bvA K), .string lblShare, .slice a 1 cap] W fun e w' => e = .returned (.agg (bvA (expS K lblShare [(i : Int)]))) ∧ Below W.heap.size W w' :=
  rExpand_any K hK lblShare a cap [(i : Int)] W (by decide) hr (by simp) (fun n hn => by rw [List.mem_singleton.1 hn]; exact ⟨by omega, by omega⟩)

set_option maxRecDepth 100000 in
set_option maxHeartbeats 4000000 in
theorem rCoefficients8 (secret : Int) (need : Nat) (K : List UInt8) (hK : K.length = 32) (h1 : 1 ≤ need) (h64 : need ≤ 64) (w : World) :
    Calls Tryz.prog 22 #[.int .i64 secret, .int .i64 need, .agg (bvA K)] w fun e w' => ∃ v, e = .returned v ∧ OwnI w.heap.size w' v (coS K secret (need - 1)) ∧ Below w.heap.size w w' := by
  have HLK := Lib.hid hK
  have HA1 : Hid (BB (w.alloc (.cells (bvA K) 24)) w.heap.size 24 K) := Lib.hid (BB.new w _ _)
  have HB1 : Hid (Below w.heap.size w (w.alloc (.cells (bvA K) 24))) := Lib.hid ((Below.refl _ _).alloc (Nat.le_refl _) _)
  have HS : Hid (∀ k, 1 ≤ k → coS K secret k = coS K secret (k - 1) ++ [((drawS K k : Nat) : Int)]) := Lib.hid (fun k hk => by
    obtain ⟨j, rfl⟩ : ∃ j, k = j + 1 := ⟨k - 1, by omega⟩
    exact coS_succ K secret j)
  have HLN : Hid (∀ k, k ≤ 64 → (coS K secret k).length ≤ 1000000) := Lib.hid (fun k hk => by rw [coS_len]; omega)
  have HD1 := Lib.hid (fun i hi W a cap hr => rdraw_any K HLK.out i hi W a cap hr)
  have HD2 := Lib.hid (fun i W => rDScalar_any (expS K lblShare [((i : Nat) : Int)]) (expS_len _ _ _) lblShare W (by decide))
  have HC0 : Hid (OwnI (w.heap.size + 1) ((w.alloc (.cells (bvA K) 24)).alloc (.cells #[.int .i64 secret] 3)) (.slice (some ⟨w.heap.size + 1, 0, none⟩) 1 1) (coS K secret (1 - 1))) := Lib.hid (by
    have h := OwnI.built (B := w.heap.size + 1) (w := w.alloc (.cells (bvA K) 24)) secret (by simp)
    rw [World.size_alloc] at h
    exact h)
  have HB0 : Hid (Below (w.heap.size + 1) (w.alloc (.cells (bvA K) 24)) ((w.alloc (.cells (bvA K) 24)).alloc (.cells #[.int .i64 secret] 3))) := Lib.hid ((Below.refl _ _).alloc (by simp) _)
  go_enter Tryz.func22, Tryz.ntmps22
  go_wp2_with fail
  go_loopw [7, 8] (fun v i wr => ∃ k : Nat, 1 ≤ k ∧ k ≤ need ∧ i = .int .i64 k ∧ OwnI (w.heap.size + 1) wr v (coS K secret (k - 1)) ∧ Below (w.heap.size + 1) (w.alloc (.cells (bvA K) 24)) wr) (fun _ i _ => need - (intOf i).toNat)
  case atStart => exact ⟨1, Nat.le_refl _, h1, rfl, HC0.out, HB0.out⟩
  case round =>
    clear HC0 HB0
    obtain ⟨k, hk1, hk, rfl, ho, hb⟩ := hrel
    have HB := Lib.hid hb
    have HO := Lib.hid ho
    have HA := Lib.hid (HA1.out.below hb (Nat.lt_succ_self _))
    have hZr : w.heap.size + 1 ≤ wr.heap.size := Nat.le_trans (by simp) hb.size
    by_cases hlt : k < need
    · have HLk := Lib.hid (HLN.out (k - 1) (by omega))
      have HSk := Lib.hid (HS.out k hk1)
      have HZ := Lib.hid hZr
      have hb1 : Below wr.heap.size wr (wr.alloc (.cells #[.int .i64 (k : Int)] 3)) := (Below.refl _ _).alloc (Nat.le_refl _) _
      have HE1 : Hid (Below (w.heap.size + 1) (w.alloc (.cells (bvA K) 24)) (wr.alloc (.cells #[.int .i64 (k : Int)] 3))) := Lib.hid (hb.trans (hb1.mono hZr))
      have HO1 := Lib.hid (ho.below hb1)
      have K1 := Lib.hid (HD1.out k (by omega) _ _ 1 (RdM.one (w := wr) (k : Int)))
      have K2 := Lib.hid (HD2.out k)
      have hdk : scS (expS K lblShare [(k : Int)]) lblShare = drawS K k := rfl
      rw [hdk] at K2
      generalize drawS K k = dk at *
      obtain ⟨X, hX⟩ : ∃ X, expS K lblShare [(k : Int)] = X := ⟨_, rfl⟩
      rw [hX] at K1 K2
      unfold lblShare at K1 K2
      clear hX hdk ho hb hb1 HD1 HD2 HS HLN HO HB
      go_wp2_with (first
        | (refine wpList_load_row rfl 24 (.tmp 5) rfl w.heap.size rfl _ (bvA K) (0, 0) _ HA.out Tryz.underlying24 rfl (key_sz _ HLK.out) ?_)
        | (go_at_call 35; with_reducible refine K1.out.mono ?_; rintro e w2 ⟨rfl, hb2⟩; have HE2 := Lib.hid (HE1.out.trans (hb2.mono (Nat.le_trans HZ.out (by simp)))); have HO2 := Lib.hid (HO1.out.below hb2); clear hb2)
        | (go_at_call 34; with_reducible refine (K2.out _).mono ?_; rintro e w3 ⟨rfl, hb3⟩; have HE3 := Lib.hid (HE2.out.trans (hb3.mono (Nat.le_trans (by simp) HE2.out.size))); have HO3 := Lib.hid (HO2.out.below hb3); clear hb3)
        | (refine wpList_appI1 rfl (.tmp 16) (.tmp 22) rfl (w.heap.size + 1) _ _ (dk : Nat) w3 _ rfl HO3.out rfl rfl rfl HLk.out (Nat.le_trans (by simp) HE3.out.size) ?_))
      intro v5 w5 ho5 hb5
      have HO5 : Hid (OwnI (w.heap.size + 1) w5 v5 (coS K secret k)) := Lib.hid (by rw [HSk.out]; exact ho5)
      have HB5 := Lib.hid (HE3.out.trans hb5)
      clear ho5 hb5
      go_wp2_with fail
      go_roundw
      case rel => exact ⟨k + 1, by omega, by omega, by go_num, HO5.out, HB5.out⟩
      case measure => simp [intOf]; omega
    · obtain rfl : k = need := by omega
      go_wp2_with fail
      go_ret
      exact ⟨_, rfl, HO.out.mono (Nat.le_succ _), HB1.out.trans (HB.out.mono (Nat.le_succ _))⟩

set_option maxRecDepth 100000 in
set_option maxHeartbeats 4000000 in
theorem rSplit8_ok (secret : Int) (need many : Nat) (K : List UInt8) (hK : K.length = 32) (hs : scal secret = true) (h1 : 1 ≤ need) (h2 : need ≤ many) (h64 : many ≤ 64) (w : World) :
    Calls Tryz.prog 8 #[.int .i64 secret, .int .i64 need, .int .i64 many, .agg (bvA K)] w fun e w' => ∃ v, e = .returned (.tuple #[v, .int .i64 0]) ∧ OwnS w.heap.size w' v (splTo (coS K secret (need - 1)) many) ∧ Below w.heap.size w w' := by
  have HLK := Lib.hid hK
  have f1 : decide ((need : Int) < 1) = false := decide_eq_false (by omega)
  have f2 : decide ((many : Int) < (need : Int)) = false := decide_eq_false (by omega)
  have f3 : decide (64 < (many : Int)) = false := decide_eq_false (by omega)
  have K1 := Lib.hid (fun w => scalar8_any secret w)
  rw [hs] at K1
  have K2 := Lib.hid (fun w => rCoefficients8 secret need K hK h1 (by omega) w)
  have HCS := Lib.hid (coS_scal K secret hs (need - 1))
  obtain ⟨c, hc⟩ : ∃ c, coS K secret (need - 1) = c := ⟨_, rfl⟩
  rw [hc] at K2 HCS ⊢
  have HA1 : Hid (BB (w.alloc (.cells (bvA K) 24)) w.heap.size 24 K) := Lib.hid (BB.new w _ _)
  have HB1 : Hid (Below w.heap.size w (w.alloc (.cells (bvA K) 24))) := Lib.hid ((Below.refl _ _).alloc (Nat.le_refl _) _)
  have HS : Hid (∀ k, 1 ≤ k → splTo c k = splTo c (k - 1) ++ [((k : Int), ((evQ k c : Nat) : Int))]) := Lib.hid (fun k hk => by
    obtain ⟨j, rfl⟩ : ∃ j, k = j + 1 := ⟨k - 1, by omega⟩
    exact splTo_succ c j)
  have HLN : Hid (∀ k, k ≤ 65 → (splTo c k).length ≤ 1000000) := Lib.hid (fun k hk => by rw [splTo_len]; omega)
  clear hc hs hK
  go_enter Tryz.func8, Tryz.ntmps8
  go_wp2_with (first
    | (go_at_call 21; with_reducible refine (K1.out _).mono ?_; rintro e w2 ⟨rfl, hw⟩; rw [hw]; clear hw w2)
    | (refine wpList_load_row rfl 24 (.tmp 7) rfl w.heap.size rfl _ (bvA K) (0, 0) _ HA1.out Tryz.underlying24 rfl (key_sz _ HLK.out) ?_)
    | (go_at_call 22; refine (K2.out _).mono ?_; rintro e w3 ⟨v3, rfl, ho, hb⟩; refine Hid.out ?_))
  refine Lib.hid ?_
  obtain ⟨ac, capc, rfl, hrc⟩ := ho.form
  have HRC := Lib.hid hrc
  have HB3 := Lib.hid (HB1.out.trans (hb.mono HB1.out.size))
  clear ho hb hrc K1 K2 HA1 HB1
  obtain ⟨n, hn⟩ : ∃ n, c.length = n := ⟨_, rfl⟩
  have K3 : Hid (∀ W, Below w3.heap.size w3 W → ∀ x : Nat, x ≤ 64 → Calls Tryz.prog 23 #[.slice ac n capc, .int .i64 x] W fun e w' => e = .returned (.tuple #[.int .i64 (evQ x c : Nat), .int .i64 0]) ∧ w' = W) :=
    Lib.hid (fun W h x hx => by
      have k := rEval_any ac capc c x (by omega) W (HRC.out.later h)
      rw [if_pos (List.all_eq_true.2 HCS.out), hn] at k
      exact k)
  rw [hn]
  clear hn
  have HO0 : Hid (OwnS w3.heap.size w3 (.slice none 0 0) (splTo c (1 - 1))) := Lib.hid (OwnS.nil _ _)
  have HB0 := Lib.hid (Below.refl w3.heap.size w3)
  go_wp2_with fail
  go_loopw [11, 12] (fun v i wr => ∃ k : Nat, 1 ≤ k ∧ k ≤ many + 1 ∧ i = .int .i64 k ∧ OwnS w3.heap.size wr v (splTo c (k - 1)) ∧ Below w3.heap.size w3 wr) (fun _ i _ => (many + 1) - (intOf i).toNat)
  case atStart => exact ⟨1, Nat.le_refl _, by omega, rfl, HO0.out, HB0.out⟩
  case round =>
    clear HO0 HB0
    obtain ⟨k, hk1, hk, rfl, ho, hb⟩ := hrel
    have HB := Lib.hid hb
    have HO := Lib.hid ho
    by_cases hlt : k ≤ many
    · have g1 : decide ((k : Int) ≤ (many : Int)) = true := decide_eq_true (by omega)
      have HLk := Lib.hid (HLN.out (k - 1) (by omega))
      have HSk := Lib.hid (HS.out k hk1)
      have K4 := Lib.hid (K3.out wr hb k (by omega))
      generalize evQ k c = y at *
      clear ho hb K3 HLN HS
      go_wp2_with (first
        | (go_at_call 23; with_reducible refine K4.out.mono ?_; rintro e w5 ⟨rfl, hw⟩; rw [hw]; clear hw w5)
        | (refine wpList_appShr1 rfl (.tmp 44) (.tmp 48) rfl w3.heap.size _ _ ((k : Int), (y : Nat)) _ _ rfl HO.out rfl rfl rfl HLk.out HB.out.size ?_))
      intro v6 w6 ho6 hb6
      have HO6 : Hid (OwnS w3.heap.size w6 v6 (splTo c k)) := Lib.hid (by rw [HSk.out]; exact ho6)
      have HB6 := Lib.hid (HB.out.trans hb6)
      clear ho6 hb6
      go_wp2_with fail
      go_roundw
      case rel => exact ⟨k + 1, by omega, by omega, by go_num, HO6.out, HB6.out⟩
      case measure => simp [intOf]; omega
    · obtain rfl : k = many + 1 := by omega
      have g1 : decide (((many + 1 : Nat) : Int) ≤ (many : Int)) = false := decide_eq_false (by omega)
      have HO2 : Hid (OwnS w3.heap.size wr _ (splTo c many)) := HO
      go_wp2_with fail
      go_ret2
      exact ⟨_, rfl, HO2.out.mono HB3.out.size, HB3.out.trans (HB.out.mono HB3.out.size)⟩

set_option maxRecDepth 100000 in
set_option maxHeartbeats 2000000 in
theorem rSplit8 (secret need many : Int) (K : List UInt8) (hK : K.length = 32) (w : World) :
    Calls Tryz.prog 8 #[.int .i64 secret, .int .i64 need, .int .i64 many, .agg (bvA K)] w fun e w' => ∃ v, e = .returned (.tuple #[v, .int .i64 (splE secret need many)]) ∧ OwnS w.heap.size w' v (splL K secret need many) ∧ Below w.heap.size w w' := by
  have HB1 : Hid (Below w.heap.size w (w.alloc (.cells (bvA K) 24))) := Lib.hid ((Below.refl _ _).alloc (Nat.le_refl _) _)
  have K1 := Lib.hid (fun w => scalar8_any secret w)
  cases hs : scal secret
  · have e1 := splE_sec (need := need) (many := many) hs
    rw [splL_no (by rw [e1]; decide), e1]
    rw [hs] at K1
    clear e1
    go_enter Tryz.func8, Tryz.ntmps8
    go_wp2_with (go_at_call 21; with_reducible refine (K1.out _).mono ?_; rintro e w2 ⟨rfl, hw⟩; rw [hw]; clear hw w2)
    go_ret2
    exact ⟨_, rfl, OwnS.nil _ _, HB1.out⟩
  · rw [hs] at K1
    by_cases hb : need < 1 ∨ many < need ∨ 64 < many
    · have e1 := splE_bad hs hb
      rw [splL_no (by rw [e1]; decide), e1]
      clear e1
      by_cases b1 : need < 1
      · have f1 : decide (need < 1) = true := decide_eq_true b1
        go_enter Tryz.func8, Tryz.ntmps8
        go_wp2_with (go_at_call 21; with_reducible refine (K1.out _).mono ?_; rintro e w2 ⟨rfl, hw⟩; rw [hw]; clear hw w2)
        go_ret2
        exact ⟨_, rfl, OwnS.nil _ _, HB1.out⟩
      · have f1 : decide (need < 1) = false := decide_eq_false b1
        by_cases b2 : many < need
        · have f2 : decide (many < need) = true := decide_eq_true b2
          go_enter Tryz.func8, Tryz.ntmps8
          go_wp2_with (go_at_call 21; with_reducible refine (K1.out _).mono ?_; rintro e w2 ⟨rfl, hw⟩; rw [hw]; clear hw w2)
          go_ret2
          exact ⟨_, rfl, OwnS.nil _ _, HB1.out⟩
        · have f2 : decide (many < need) = false := decide_eq_false b2
          have f3 : decide (64 < many) = true := decide_eq_true (by omega)
          go_enter Tryz.func8, Tryz.ntmps8
          go_wp2_with (go_at_call 21; with_reducible refine (K1.out _).mono ?_; rintro e w2 ⟨rfl, hw⟩; rw [hw]; clear hw w2)
          go_ret2
          exact ⟨_, rfl, OwnS.nil _ _, HB1.out⟩
    · obtain ⟨N, rfl⟩ : ∃ N : Nat, need = N := ⟨need.toNat, by omega⟩
      obtain ⟨M, rfl⟩ : ∃ M : Nat, many = M := ⟨many.toNat, by omega⟩
      have e1 := splE_ok (secret := secret) (need := (N : Int)) (many := (M : Int)) hs (by omega) (by omega) (by omega)
      rw [splL_ok e1, e1]
      simp only [Int.toNat_natCast]
      exact rSplit8_ok secret N M K hK hs (by omega) (by omega) (by omega) w
end Go.Proofs.YtecojpkefobgpaaGreatDoor
