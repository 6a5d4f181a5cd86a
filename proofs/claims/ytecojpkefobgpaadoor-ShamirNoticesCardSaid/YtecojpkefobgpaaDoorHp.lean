/-
  The walk of ShamirValues (chartroomlaw08).
-/
import Derived.Test.YtecojpkefobgpaaDoorHo
namespace Go.Proofs.YtecojpkefobgpaaDoor
open Go.RowKit
set_option linter.unusedVariables false
set_option linter.unusedSimpArgs false

/-- Behind the examples: the box of the seed, the tables, only new blocks have turned. -/
structure SdB (w : World) (K : List UInt8) (W : World) : Prop where
  below : Below w.heap.size w W
  key : BB W w.heap.size 23 K
  tab : Tab W
theorem SdB.call {w W W' : World} {K : List UInt8} (h : SdB w K W) (hb : Below W.heap.size W W') : SdB w K W' :=
  ⟨h.below.trans (hb.mono h.below.size), h.key.below hb h.key.lt, h.tab.below hb h.tab.lt⟩
theorem SdB.start {w : World} {K : List UInt8} (hT : Tab w) : SdB w K (w.alloc (.cells (bvA K) 23)) :=
  ⟨(Below.refl _ _).alloc (Nat.le_refl _) _, BB.new w _ _, hT.below ((Below.refl _ _).alloc (Nat.le_refl _) _) hT.lt⟩

set_option maxRecDepth 100000 in
set_option maxHeartbeats 4000000 in
theorem values_big (secret need many : Int) (h1 : 12 < many) (h2 : many ≤ 64) (K : List UInt8) (w : World) (hT : Tab w) :
    Calls Tryd.prog 7 #[.int .i64 secret, .int .i64 need, .int .i64 many, .agg (bvA K)] w fun e w' => e = .returned (.bool true) ∧ Below w.heap.size w w' := by
  have HS1 := Lib.hid (SdB.start (K := K) hT)
  have f1 : decide (12 < many) = true := decide_eq_true h1
  have f2 : decide (many ≤ 64) = true := decide_eq_true h2
  clear hT
  go_enter Tryd.func7, Tryd.ntmps7
  go_wp2_with (go_at_call 8; refine (sane8_any _ HS1.out.tab).mono ?_; rintro e w2 ⟨rfl, hb⟩; refine Hid.out ?_)
  refine Lib.hid ?_
  have HS2 := Lib.hid (HS1.out.call hb)
  clear hb HS1
  go_wp2_with fail
  go_ret
  exact ⟨rfl, HS2.out.below⟩

set_option maxRecDepth 100000 in
set_option maxHeartbeats 4000000 in
theorem values_err (secret need many : Int) (hm : decide (12 < many) = false ∨ (decide (12 < many) = true ∧ decide (many ≤ 64) = false)) (hE : splE secret need many ≠ 0) (K : List UInt8) (hK : K.length = 32) (w : World) (hT : Tab w) :
    Calls Tryd.prog 7 #[.int .i64 secret, .int .i64 need, .int .i64 many, .agg (bvA K)] w fun e w' => e = .returned (.bool true) ∧ Below w.heap.size w w' := by
  have HS1 := Lib.hid (SdB.start (K := K) hT)
  have HKS := Lib.hid (key_sz _ hK)
  have K1 := Lib.hid (fun W hT => Split_any secret need many K hK W hT)
  rw [splL_no hE] at K1
  obtain ⟨E, hEE⟩ : ∃ E, splE secret need many = E := ⟨_, rfl⟩
  rw [hEE] at K1 hE
  have f3 : (E != 0) = true := by simpa using hE
  clear hT hEE hE
  have rest : ∀ (f : True), True := fun _ => trivial
  rcases hm with f1 | ⟨f1, f2⟩
  · go_enter Tryd.func7, Tryd.ntmps7
    go_wp2_with (go_at_call 8; refine (sane8_any _ HS1.out.tab).mono ?_; rintro e w2 ⟨rfl, hb⟩; refine Hid.out ?_)
    refine Lib.hid ?_
    have HS2 := Lib.hid (HS1.out.call hb)
    clear hb HS1
    go_wp2_with (first
      | (refine wpList_load_row rfl 23 (.tmp 7) rfl w.heap.size rfl _ (bvA K) (0, 0) _ HS2.out.key Tryd.underlying23 rfl HKS.out ?_)
      | (go_at_call 9; refine (K1.out _ HS2.out.tab).mono ?_; rintro e w3 ⟨v3, rfl, ho, hb⟩; refine Hid.out ?_))
    refine Lib.hid ?_
    obtain ⟨a3, cap3, rfl, _, _, _, _⟩ := ho.formN 0 rfl
    have HS3 := Lib.hid (HS2.out.call hb)
    clear hb ho
    go_wp2_with fail
    go_ret
    exact ⟨rfl, HS3.out.below⟩
  · go_enter Tryd.func7, Tryd.ntmps7
    go_wp2_with (go_at_call 8; refine (sane8_any _ HS1.out.tab).mono ?_; rintro e w2 ⟨rfl, hb⟩; refine Hid.out ?_)
    refine Lib.hid ?_
    have HS2 := Lib.hid (HS1.out.call hb)
    clear hb HS1
    go_wp2_with (first
      | (refine wpList_load_row rfl 23 (.tmp 7) rfl w.heap.size rfl _ (bvA K) (0, 0) _ HS2.out.key Tryd.underlying23 rfl HKS.out ?_)
      | (go_at_call 9; refine (K1.out _ HS2.out.tab).mono ?_; rintro e w3 ⟨v3, rfl, ho, hb⟩; refine Hid.out ?_))
    refine Lib.hid ?_
    obtain ⟨a3, cap3, rfl, _, _, _, _⟩ := ho.formN 0 rfl
    have HS3 := Lib.hid (HS2.out.call hb)
    clear hb ho
    go_wp2_with fail
    go_ret
    exact ⟨rfl, HS3.out.below⟩

set_option maxRecDepth 100000 in
set_option maxHeartbeats 8000000 in
theorem values_ok (secret : Int) (N M : Nat) (hs : scal secret = true) (h1 : 1 ≤ N) (h2 : N ≤ M) (h12 : M ≤ 12) (K : List UInt8) (hK : K.length = 32) (w : World) (hT : Tab w) :
    Calls Tryd.prog 7 #[.int .i64 secret, .int .i64 N, .int .i64 M, .agg (bvA K)] w fun e w' => e = .returned (.bool true) ∧ Below w.heap.size w w' := by
  have HS1 := Lib.hid (SdB.start (K := K) hT)
  have HLK := Lib.hid hK
  have HKS := Lib.hid (key_sz _ hK)
  have K1 := Lib.hid (fun W hT => Split_ok secret N M K hK hs h1 h2 (by omega) W hT)
  have f1 : decide (12 < (M : Int)) = false := decide_eq_false (by omega)
  have f2 : decide ((M : Int) < (N : Int)) = false := decide_eq_false (by omega)
  have f2' : decide (M < N) = false := decide_eq_false (by omega)
  have HS : Hid (∀ k, 1 ≤ k → coS K secret k = coS K secret (k - 1) ++ [((drawS K k : Nat) : Int)]) := Lib.hid (fun k hk => by
    obtain ⟨j, rfl⟩ : ∃ j, k = j + 1 := ⟨k - 1, by omega⟩
    exact coS_succ K secret j)
  have HLN : Hid (∀ k, k ≤ 64 → (coS K secret k).length ≤ 1000000) := Lib.hid (fun k hk => by rw [coS_len]; omega)
  have HD1 := Lib.hid (fun i hi W hT a cap hr => draw_any K HLK.out i hi W hT a cap hr)
  have HD2 := Lib.hid (fun i W hT => DScalar_any (expS K lblShare [(i : Int)]) (expS_len _ _ _) lblShare W hT (by decide))
  have HSC := Lib.hid (coS_scal K secret hs (N - 1))
  have HCL := Lib.hid (coS_len K secret (N - 1))
  have HC1 : Hid (coS K secret (1 - 1) = [secret]) := Lib.hid rfl
  clear hT hs
  go_enter Tryd.func7, Tryd.ntmps7
  go_wp2_with (go_at_call 8; refine (sane8_any _ HS1.out.tab).mono ?_; rintro e w2 ⟨rfl, hb⟩; refine Hid.out ?_)
  refine Lib.hid ?_
  have HS2 := Lib.hid (HS1.out.call hb)
  clear hb HS1
  go_wp2_with (first
    | (refine wpList_load_row rfl 23 (.tmp 7) rfl w.heap.size rfl _ (bvA K) (0, 0) _ HS2.out.key Tryd.underlying23 rfl HKS.out ?_)
    | (go_at_call 9; refine (K1.out _ HS2.out.tab).mono ?_; rintro e w3 ⟨v3, rfl, ho, hb⟩; refine Hid.out ?_))
  refine Lib.hid ?_
  obtain ⟨a3, cap3, rfl, _, _, _, hr3⟩ := ho.formN M (splTo_len _ _)
  have HS3 := Lib.hid (HS2.out.call hb)
  have HR3 := Lib.hid hr3
  have HO0 : Hid (OwnI w3.heap.size (w3.alloc (.cells #[.int .i64 secret] 3)) (.slice (some ⟨w3.heap.size, 0, none⟩) 1 1) (coS K secret (1 - 1))) := Lib.hid (by rw [HC1.out]; exact OwnI.built secret (Nat.le_refl _))
  have HB0 : Hid (Below w3.heap.size w3 (w3.alloc (.cells #[.int .i64 secret] 3))) := Lib.hid ((Below.refl _ _).alloc (Nat.le_refl _) _)
  clear hb ho hr3 HS2 K1
  go_wp2_with fail
  go_loopw [11, 12] (fun v i wr => ∃ k : Nat, 1 ≤ k ∧ k ≤ N ∧ i = .int .i64 k ∧ OwnI w3.heap.size wr v (coS K secret (k - 1)) ∧ Below w3.heap.size w3 wr) (fun _ i _ => N - (intOf i).toNat)
  case atStart => exact ⟨1, Nat.le_refl _, h1, rfl, HO0.out, HB0.out⟩
  case round =>
    clear HO0 HB0
    obtain ⟨k, hk1, hk, rfl, ho, hb⟩ := hrel
    have HB := Lib.hid hb
    have HO := Lib.hid ho
    have HSr := Lib.hid (HS3.out.call hb)
    by_cases hlt : k < N
    · have HLk := Lib.hid (HLN.out (k - 1) (by omega))
      have HSk := Lib.hid (HS.out k hk1)
      have hb1 : Below wr.heap.size wr (wr.alloc (.cells #[.int .i64 (k : Int)] 3)) := (Below.refl _ _).alloc (Nat.le_refl _) _
      have HSr1 := Lib.hid (HSr.out.call hb1)
      have HE1 : Hid (Below w3.heap.size w3 (wr.alloc (.cells #[.int .i64 (k : Int)] 3))) := Lib.hid (hb.trans (hb1.mono hb.size))
      have HO1 := Lib.hid (ho.below hb1)
      have K1 := Lib.hid (HD1.out k (by omega) _ HSr1.out.tab _ 1 (RdM.one (w := wr) (k : Int)))
      have K2 := Lib.hid (HD2.out k)
      have hdk : scS (expS K lblShare [(k : Int)]) lblShare = drawS K k := rfl
      rw [hdk] at K2
      generalize drawS K k = dk at *
      obtain ⟨X, hX⟩ : ∃ X, expS K lblShare [(k : Int)] = X := ⟨_, rfl⟩
      rw [hX] at K1 K2
      unfold lblShare at K1 K2
      clear hX hdk ho hb hb1 HD1 HD2 HS HLN HO HB
      go_wp2_with (first
        | (refine wpList_load_row rfl 23 (.tmp 7) rfl w.heap.size rfl _ (bvA K) (0, 0) _ HSr.out.key Tryd.underlying23 rfl HKS.out ?_)
        | (go_at_call 23; with_reducible refine K1.out.mono ?_; rintro e u2 ⟨rfl, hb2⟩; have HE2 := Lib.hid (HE1.out.trans (hb2.mono HE1.out.size)); have HO2 := Lib.hid (HO1.out.below hb2); have HSr2 := Lib.hid (HSr1.out.call hb2); clear hb2)
        | (go_at_call 22; with_reducible refine (K2.out _ HSr2.out.tab).mono ?_; rintro e u3 ⟨rfl, hb3⟩; have HE3 := Lib.hid (HE2.out.trans (hb3.mono HE2.out.size)); have HO3 := Lib.hid (HO2.out.below hb3); clear hb3)
        | (refine wpList_appI1 rfl (.tmp 53) (.tmp 59) rfl w3.heap.size _ _ (dk : Nat) u3 _ rfl HO3.out rfl rfl rfl HLk.out HE3.out.size ?_))
      intro v5 w5 ho5 hb5
      have HO5 : Hid (OwnI w3.heap.size w5 v5 (coS K secret k)) := Lib.hid (by rw [HSk.out]; exact ho5)
      have HB5 := Lib.hid (HE3.out.trans hb5)
      clear ho5 hb5
      go_wp2_with fail
      go_roundw
      case rel =>
        first
          | exact ⟨k + 1, by omega, by omega, by go_num, HO5.out, HB5.out⟩
          | (repeat apply Exists.intro
             exact ⟨⟨k + 1, by omega, by omega, by go_num, HO5.out, HB5.out⟩, rfl⟩)
      case measure => simp [intOf]; omega
    · obtain rfl : k = N := by omega
      obtain ⟨ac, capc, rfl, hrc⟩ := ho.form
      rw [HCL.out]
      have hkk : k - 1 + 1 = k := by omega
      rw [hkk]
      rw [HCL.out, hkk] at HO
      have HRC := Lib.hid hrc
      have HR3r := Lib.hid ((HR3.out.below (hb.mono (Nat.le_refl _))).mono hb.size)
      obtain ⟨wz, hwz⟩ : ∃ wz, wz = wr := ⟨_, rfl⟩
      have HB0 : Hid (Below wz.heap.size wz wr) := Lib.hid (hwz ▸ Below.refl wz.heap.size wz)
      rw [← hwz] at HRC HR3r HSr
      obtain ⟨c, hc⟩ : ∃ c, coS K secret (k - 1) = c := ⟨_, rfl⟩
      have hcl : c.length = k := by rw [← hc, HCL.out, hkk]
      rw [hc] at HSC HRC HR3r
      have HKE : Hid (∀ W, Below wz.heap.size wz W → ∀ j : Nat, j ≤ 64 → Calls Tryd.prog 24 #[.slice ac k capc, .int .i64 ((j : Int) + 1)] W fun e w' => e = .returned (.tuple #[.int .i64 (evQ (j + 1) c : Nat), .int .i64 0]) ∧ Below W.heap.size W w') :=
        Lib.hid (fun W h j hj => by
          have k1 := fEval ac capc c (j + 1) (by omega) HSC.out W (HRC.out.later h)
          rw [hcl, show ((j + 1 : Nat) : Int) = (j : Int) + 1 by omega] at k1
          exact k1)
      clear hc hcl hrc ho hb HB HO HD1 HD2 HS HLN HSC HC1 HCL hkk HRC HR3 hwz
      go_wp2_with fail
      go_loopw [13] (fun i wq => ∃ j : Nat, j ≤ M ∧ i = .int .i64 j ∧ Below wz.heap.size wz wq) (fun i _ => M - (intOf i).toNat)
      case atStart => exact ⟨0, Nat.zero_le _, rfl, HB0.out⟩
      case round =>
        clear HB0
        obtain ⟨j, hj, rfl, hb⟩ := hrel
        have HB := Lib.hid hb
        by_cases hlt2 : j < M
        · have hjl : j < (splTo c M).length := by rw [splTo_len]; exact hlt2
          obtain ⟨b, o, rfl, hbB, hcl⟩ := HR3r.out.at_ (by omega)
          obtain ⟨c0, c1⟩ := hcl j hjl
          rw [splTo_get] at c0 c1
          have HKj := Lib.hid (HKE.out _ hb j (by omega))
          generalize evQ (j + 1) c = y at *
          have HCELL : Hid (∀ W, Below wz.heap.size wz W → W.cell? ⟨b, o + j * 2, none⟩ = some (.int .i64 ((j : Int) + 1)) ∧ W.cell? ⟨b, o + j * 2 + 1, none⟩ = some (.int .i64 (y : Nat))) := Lib.hid (fun W h => by
            have e0 := (h.cell (p := ⟨b, o + j * 2, none⟩) hbB).trans c0
            have e1 := (h.cell (p := ⟨b, o + j * 2 + 1, none⟩) hbB).trans c1
            exact ⟨by rw [e0]; rfl, e1⟩)
          clear hcl c0 c1 hb HKE hjl
          go_wp2_with (go_at_call 24; with_reducible refine HKj.out.mono ?_; rintro e u4 ⟨rfl, hb4⟩; have HB4 := Lib.hid (HB.out.trans (hb4.mono HB.out.size)); have ⟨g0, g1⟩ := HCELL.out _ HB4.out; clear hb4)
          go_roundw
          case rel =>
            first
              | exact ⟨j + 1, by omega, by go_num, HB4.out⟩
              | (repeat apply Exists.intro
                 exact ⟨⟨j + 1, by omega, by go_num, HB4.out⟩, rfl⟩)
          case measure => simp [intOf]; omega
        · obtain rfl : j = M := by omega
          go_wp2_with fail
          go_ret
          exact ⟨rfl, (HSr.out.call hb).below⟩

theorem many_cases {many : Int} (h : ¬ (12 < many ∧ many ≤ 64)) : decide (12 < many) = false ∨ (decide (12 < many) = true ∧ decide (many ≤ 64) = false) := by
  by_cases h1 : 12 < many
  · exact .inr ⟨decide_eq_true h1, decide_eq_false (by omega)⟩
  · exact .inl (decide_eq_false h1)
theorem values_walk8 (secret need many : Int) (K : List UInt8) (hK : K.length = 32) (w : World) (hT : Tab w) :
    Calls Tryd.prog 7 #[.int .i64 secret, .int .i64 need, .int .i64 many, .agg (bvA K)] w fun e w' => e = .returned (.bool true) ∧ Below w.heap.size w w' := by
  by_cases hb : 12 < many ∧ many ≤ 64
  · exact values_big secret need many hb.1 hb.2 K w hT
  · by_cases hE : splE secret need many = 0
    · obtain ⟨h1, h2, h3, h4⟩ := splE_zero hE
      obtain ⟨N, rfl⟩ : ∃ N : Nat, need = N := ⟨need.toNat, by omega⟩
      obtain ⟨M, rfl⟩ : ∃ M : Nat, many = M := ⟨many.toNat, by omega⟩
      exact values_ok secret N M h1 (by omega) (by omega) (by omega) K hK w hT
    · exact values_err secret need many (many_cases hb) hE K hK w hT
end Go.Proofs.YtecojpkefobgpaaDoor
