/-
  The walk of chartroomlaw02.DigestPlaces.
-/
import Derived.Test.YtndbhmipehpebaaDoorClimbsL
import Derived.LoopTactic
namespace Go.Proofs.YtndbhmipehpebaaDoor
open Go.RowKit

set_option maxRecDepth 100000 in
set_option maxHeartbeats 1600000 in
theorem steps_any (at0 n0 : Nat) (w : World) (h0 : at0 < n0) (hn : n0 ≤ 1099511627776) :
    Calls Tryd.prog 24 #[.int .i64 at0, .int .i64 n0] w fun e w' => e = .returned (.int .i64 (lenS at0 n0)) ∧ w = w' := by
  have hle := lenS_le _ at0 n0 (Nat.lt_succ_self _)
  obtain ⟨L, hL⟩ : ∃ L, L = lenS at0 n0 := ⟨_, rfl⟩
  rw [← hL] at hle ⊢
  have HL := Lib.hid hL
  have HA := Lib.hid h0
  have HN := Lib.hid hn
  have hL40 : L ≤ 1099511627776 := by omega
  clear hL h0 hn hle
  go_enter Tryd.func24, Tryd.ntmps24
  go_wp2_with fail
  go_loop [0, 1, 5] (fun x y z => ∃ at_ n k : Nat, x = .int .i64 at_ ∧ y = .int .i64 n ∧ z = .int .i64 k ∧ at_ < n ∧ n ≤ 1099511627776 ∧ L = lenS at_ n + k) (fun _ y _ => (intOf y).toNat)
  case atStart => exact ⟨at0, n0, 0, rfl, rfl, rfl, HA.out, HN.out, HL.out⟩
  case round =>
    clear HL HA HN
    obtain ⟨at_, n, k, rfl, rfl, rfl, hat, hn, hk⟩ := hrel
    have HK := Lib.hid hk
    have hkL : k ≤ L := by omega
    clear hk
    by_cases hlt : 1 < n
    · have hb := half_bd n (by omega)
      obtain ⟨hb1, hb2, hb3⟩ := hb
      have hk1 : k < L := by
        have h1 := HK.out
        by_cases ha : at_ < half n
        · rw [lenS_lo _ _ (by omega) ha] at h1; omega
        · rw [lenS_hi _ _ (by omega) (by omega)] at h1; omega
      go_wp2_with fail
      go_loop [6] (fun m => ∃ i j : Nat, m = .int .i64 j ∧ j < n ∧ Hid (j = 2 ^ i)) (fun m => n - (intOf m).toNat)
      case atStart => exact ⟨0, 1, rfl, hlt, Lib.hid rfl⟩
      case round =>
        obtain ⟨i, j, rfl, hj, hji⟩ := hrel
        have hj0 : 1 ≤ j := by have := hji.out; have := @Nat.one_le_two_pow i; omega
        by_cases h2 : 2 * j < n
        · go_wp2_with fail
          go_round
          case rel => exact ⟨i + 1, 2 * j, by go_num, h2, by show _ = _; rw [hji.out, Nat.pow_succ]; omega⟩
          case measure => simp [intOf]; omega
        · have hh : j = half n := by
            rw [hji.out]
            exact half_unique n i (by rw [← hji.out]; exact hj) (by rw [Nat.pow_succ, ← hji.out]; omega)
          subst hh
          by_cases ha : at_ < half n
          · go_wp2_with fail
            go_round
            case rel => exact ⟨at_, half n, k + 1, rfl, rfl, by go_num, ha, by omega, by rw [HK.out, lenS_lo _ _ (by omega) ha]; omega⟩
            case measure => simp [intOf]; omega
          · have hge : (half n : Int) ≤ (at_ : Int) := by omega
            go_wp2_with fail
            go_round
            case rel => exact ⟨at_ - half n, n - half n, k + 1, by go_num, by go_num, by go_num, by omega, by omega, by rw [HK.out, lenS_hi _ _ (by omega) (by omega)]; omega⟩
            case measure => simp [intOf]; omega
    · have e : L = k := by rw [HK.out, lenS_one _ _ (by omega)]; omega
      subst e
      go_wp2_with fail
      go_ret
      exact ⟨rfl, rfl⟩

set_option maxRecDepth 100000 in
set_option maxHeartbeats 6400000 in
theorem places_walk (a : Option Addr) (cap : Nat) (l : List UInt8) (p n : Int) (w : World) (hT : Tab w) (hl : RdB w.heap.size w a l) (hcap : l.length ≤ cap) (hc2 : cap ≤ maxLen) :
    Calls Tryd.prog 9 #[.slice a l.length cap, .int .i64 p, .int .i64 n] w fun e w' => e = .returned (.bool true) ∧ Below w.heap.size w w' := by
  have HT := Lib.hid hT
  have HL := Lib.hid hl
  have HC2 := Lib.hid hc2
  have hlt := HT.out.lt
  clear hT hl
  unfold maxLen at hc2
  by_cases hbad : p < 0 ∨ ((digs l).length : Int) ≤ p
  · go_enter Tryd.func9, Tryd.ntmps9
    go_wp2_with fail
    refine (sane_any w HT.out).mono ?_
    rintro e w1 ⟨rfl, hb1⟩
    have HB1 := Lib.hid hb1
    clear hb1
    go_wp2_with fail
    refine (digestsOf_any a cap l w1 ((HL.out.below HB1.out).mono HB1.out.size) hcap HC2.out).mono ?_
    rintro e w2 ⟨v2, rfl, ho2, hb2⟩
    have hD24 := digs_len l
    generalize digs l = D at *
    have HB2 := Lib.hid (HB1.out.trans (hb2.mono HB1.out.size))
    obtain ⟨av, cv, rfl, hf1, hf2, hf3, hf4⟩ := ho2.form
    have HBAD := Lib.hid hbad
    clear ho2 hb2 HB1 hf4 hf3 hf2 hbad
    go_wp2_with fail
    refine (Path_bad av D.length cv p w2 (by omega) HBAD.out).mono ?_
    rintro e w3 ⟨rfl, hw3⟩
    subst hw3
    by_cases hp0 : p < 0
    · have f1 : decide (p < 0) = true := decide_eq_true hp0
      go_wp2_with fail
      go_ret
      exact ⟨rfl, HB2.out⟩
    · have f1 : decide (p < 0) = false := decide_eq_false hp0
      have f2 : decide ((D.length : Int) ≤ p) = true := decide_eq_true (by have := HBAD.out; omega)
      go_wp2_with fail
      go_ret
      exact ⟨rfl, HB2.out⟩
  · obtain ⟨at_, rfl⟩ : ∃ at_ : Nat, p = (at_ : Int) := ⟨p.toNat, by omega⟩
    have hat : at_ < (digs l).length := by omega
    clear hbad
    go_enter Tryd.func9, Tryd.ntmps9
    go_wp2_with fail
    refine (sane_any w HT.out).mono ?_
    rintro e w1 ⟨rfl, hb1⟩
    have HB1 := Lib.hid hb1
    clear hb1
    go_wp2_with fail
    refine (digestsOf_any a cap l w1 ((HL.out.below HB1.out).mono HB1.out.size) hcap HC2.out).mono ?_
    rintro e w2 ⟨v2, rfl, ho2, hb2⟩
    have hD24 := digs_len l
    have HD32 := Lib.hid (digs_32 l)
    generalize digs l = D at *
    have HB2 := Lib.hid (HB1.out.trans (hb2.mono HB1.out.size))
    obtain ⟨av, cv, rfl, hf1, hf2, hf3, hf4⟩ := ho2.form
    have HV := Lib.hid hf4
    have HC3 := Lib.hid hf2
    clear ho2 hb2 HB1 hf4 hf3
    unfold maxLen at hf2
    go_wp2_with fail
    refine (Path_ok av cv D at_ w2 (HT.out.below HB2.out hlt) HV.out hf1 HC3.out hat (by omega)).mono ?_
    rintro e w3 ⟨v3, rfl, ho3, hb3⟩
    have hPL := pathS_lenS _ D at_ (Nat.lt_succ_self _)
    have hP5 := lenS_24 D.length (by omega) at_ hat
    obtain ⟨P, hP⟩ : ∃ P, P = pathS D at_ := ⟨_, rfl⟩
    rw [← hP] at ho3 hPL
    have HPL := Lib.hid hPL
    have hp5 : P.length ≤ 5 := by omega
    have HO3 := Lib.hid ho3
    have HB3 := Lib.hid (HB2.out.trans (hb3.mono HB2.out.size))
    have HV3 := Lib.hid (HV.out.below hb3)
    have hz3 := hb3.size
    obtain ⟨ap, cp, rfl, hq1, hq2, hq3, hq4⟩ := ho3.form
    have HQ2 := Lib.hid hq2
    clear ho3 hb3 hq4 hq3 hP hPL hP5 HV HB2
    have hst := steps_any at_ D.length w3 hat (by omega)
    rw [← HPL.out] at hst
    have HST := Lib.hid hst
    clear hst
    unfold maxLen at hq2
    go_wp2_with (go_at_call 24; refine HST.out.mono ?_; rintro e w' ⟨rfl, rfl⟩)
    obtain ⟨w4, hw4⟩ : ∃ w4, w4 = w3.alloc (.cells #[.int .i64 n, .int .i64 (bits BinOp.and IntKind.i64 n 31), .int .i64 ((D.length : Int) + 1), .int .i64 (2 * (D.length : Int))] 3) := ⟨_, rfl⟩
    have hB4 : Below w3.heap.size w3 w4 := hw4 ▸ (Below.refl _ _).alloc (Nat.le_refl _) _
    have hc4 : ∀ k, k < 4 → ∃ m, w4.cell? ⟨w3.heap.size, k, none⟩ = some (.int .i64 m) := by
      intro k hk
      rw [hw4, cell_of_row _ _ _ _ _ _ (heap_alloc_new w3 _)]
      have : k = 0 ∨ k = 1 ∨ k = 2 ∨ k = 3 := by omega
      rcases this with rfl | rfl | rfl | rfl
      · exact ⟨_, rfl⟩
      · exact ⟨_, rfl⟩
      · exact ⟨_, rfl⟩
      · exact ⟨_, rfl⟩
    have hz4 : w3.heap.size < w4.heap.size := by rw [hw4]; simp
    rw [← hw4]
    have HC4 := Lib.hid hc4
    have HV4 := Lib.hid (HV3.out.below (hB4.mono hz3))
    have HQ4 := Lib.hid ((HO3.out.below hB4).rdOf).1
    have HB4 := Lib.hid (HB3.out.trans (hB4.mono HB3.out.size))
    clear hw4 hB4 hc4 HV3 HO3 HB3 HST
    have hat2 : at_ < D.length := hat
    go_loopw [62] (fun i wr => ∃ k : Nat, k ≤ 4 ∧ i = .int .i64 k ∧ Below w4.heap.size w4 wr) (fun i _ => 4 - (intOf i).toNat)
    case atStart => exact ⟨0, by omega, rfl, Below.refl _ _⟩
    case round =>
      obtain ⟨k, hk, rfl, hb⟩ := hrel
      by_cases hlt4 : k < 4
      · obtain ⟨m, hm⟩ := HC4.out k hlt4
        have hmr := (hb.cell (p := ⟨w3.heap.size, k, none⟩) hz4).trans hm
        have HVr := Lib.hid (HV4.out.below (hb.mono (Nat.le_trans hz3 (Nat.le_of_lt hz4))))
        have HQr := Lib.hid (HQ4.out.below hb)
        have HBr := Lib.hid hb
        have HBw := Lib.hid (HB4.out.trans (hb.mono HB4.out.size))
        have hzr := hb.size
        obtain ⟨b, o, rfl, hbB, hcell⟩ := HVr.out.at_ (by omega)
        obtain ⟨d, hd⟩ : ∃ d, D[at_] = d := ⟨_, rfl⟩
        have hrd := hcell at_ hat
        rw [hd] at hrd
        have hd32 : d.length = 32 := by rw [← hd]; exact HD32.out _ (List.getElem_mem hat)
        have HRD := Lib.hid hrd
        have HD := Lib.hid hd32
        have HI : Hid ((Tryd.prog.info? 26).map (·.size) = some (d.map bv).length) := by show _ = _; rw [List.length_map, hd32]; exact sha_size
        clear hb hm hcell hrd hd hd32
        have hat0 : (0 : Int) ≤ (at_ : Int) := by omega
        have hat1 : (at_ : Int) < (D.length : Int) := by omega
        by_cases hfit : (at_ : Int) < m ∧ m ≤ 1099511627776 ∧ P.length = lenS at_ m.toNat
        · obtain ⟨m1, m2, m3⟩ := hfit
          obtain ⟨mn, rfl⟩ : ∃ mn : Nat, m = (mn : Int) := ⟨m.toNat, by omega⟩
          rw [Int.toNat_natCast] at m3
          have hst := fun W => steps_any at_ mn W (by omega) (by omega)
          rw [← m3] at hst
          have HST := Lib.hid hst
          have HCL := Lib.hid (fun W (h1 : Tab W) (h2 : RdD W.heap.size W ap P) => Climb_ok d at_ mn ap cp P W HD.out h1 h2 hq1 HQ2.out (by omega) (by omega) m3)
          have f1 : decide (at_ < mn) = true := decide_eq_true (by omega)
          have f2 : decide ((mn : Int) ≤ 1099511627776) = true := decide_eq_true m2
          clear hst m3
          go_wp2_with (first | (go_at_call 24; refine (HST.out _).mono ?_; rintro e w' ⟨rfl, rfl⟩) | (refine wpList_load_mid rfl 26 (.tmp 84) rfl b (o + at_ * 32) rfl (d.map bv) _ HRD.out digest_und rfl HI.out ?_))
          refine (HCL.out wr (HT.out.below HBw.out hlt) (HQr.out.mono hzr)).mono ?_
          rintro e w5 ⟨rfl, hb5⟩
          have HSX : Hid ((Tryd.prog.info? 26).map (·.size) = some (bvA (climbS d at_ mn P)).size) := by show _ = _; rw [bvA_size, climbS_len d at_ mn P]; exact sha_size
          have HOX : Hid ((bvA (List.replicate 32 0)).size = (bvA (climbS d at_ mn P)).size) := by show _ = _; rw [bvA_size, bvA_size, climbS_len d at_ mn P, List.length_replicate]
          have HB5 := Lib.hid (HBr.out.trans (hb5.mono HBr.out.size))
          clear hb5
          go_wp2_with (refine wpList_storeA rfl 26 (.tmp 13) (.tmp 90) rfl w5.heap.size (bvA (climbS d at_ mn P)) rfl rfl 26 (bvA (List.replicate 32 0)) (heap_alloc_new w5 _) HSX.out HOX.out (bvA_one _) ?_)
          intro w6 h6 hg6
          have HB6 := Lib.hid (HB5.out.trans ((grown_below ((Below.refl _ _).alloc (Nat.le_refl _) _) hg6 (Nat.le_refl _) (by simp) : Below w5.heap.size w5 w6).mono HB5.out.size))
          clear h6 hg6
          go_wp2_with fail
          go_roundw
          case rel => exact ⟨k + 1, by omega, by go_num, HB6.out⟩
          case measure => simp [intOf]; omega
        · have HCB := Lib.hid (fun W (h : m < 1 ∨ 1099511627776 < m ∨ (at_ : Int) < 0 ∨ m ≤ (at_ : Int) ∨ P.length ≠ lenS (at_ : Int).toNat m.toNat) => Climb_bad d at_ m ap cp P W (by omega) h)
          have HZ32 : Hid (zero32.length = 32) := Lib.hid rfl
          by_cases m1 : (at_ : Int) < m
          · by_cases m2 : m ≤ 1099511627776
            · obtain ⟨mn, rfl⟩ : ∃ mn : Nat, m = (mn : Int) := ⟨m.toNat, by omega⟩
              have m3 : P.length ≠ lenS at_ mn := by rw [Int.toNat_natCast] at hfit; omega
              have HST := Lib.hid (fun W => steps_any at_ mn W (by omega) (by omega))
              have HCC := Lib.hid (fun W => HCB.out W (.inr (.inr (.inr (.inr (by rw [Int.toNat_natCast, Int.toNat_natCast]; exact m3))))))
              have hLe := lenS_le _ at_ mn (Nat.lt_succ_self _)
              have f3 : ((lenS at_ mn : Int) == (P.length : Int)) = false := by rw [beq_eq_false_iff_ne]; omega
              generalize lenS at_ mn = LL at *
              have f1 : decide (at_ < mn) = true := decide_eq_true (by omega)
              have f2 : decide ((mn : Int) ≤ 1099511627776) = true := decide_eq_true m2
              clear m3 hfit
              go_wp2_with (first | (go_at_call 24; refine (HST.out _).mono ?_; rintro e w' ⟨rfl, rfl⟩) | (refine wpList_load_mid rfl 26 (.tmp 84) rfl b (o + at_ * 32) rfl (d.map bv) _ HRD.out digest_und rfl HI.out ?_))
              refine (HCC.out wr).mono ?_
              rintro e w5 ⟨rfl, hb5⟩
              have HSX : Hid ((Tryd.prog.info? 26).map (·.size) = some (bvA zero32).size) := by show _ = _; rw [bvA_size, HZ32.out]; exact sha_size
              have HOX : Hid ((bvA (List.replicate 32 0)).size = (bvA zero32).size) := by show _ = _; rw [bvA_size, bvA_size, HZ32.out, List.length_replicate]
              have HB5 := Lib.hid (HBr.out.trans (hb5.mono HBr.out.size))
              clear hb5
              go_wp2_with (refine wpList_storeA rfl 26 (.tmp 13) (.tmp 90) rfl w5.heap.size (bvA zero32) rfl rfl 26 (bvA (List.replicate 32 0)) (heap_alloc_new w5 _) HSX.out HOX.out (bvA_one _) ?_)
              intro w6 h6 hg6
              have HB6 := Lib.hid (HB5.out.trans ((grown_below ((Below.refl _ _).alloc (Nat.le_refl _) _) hg6 (Nat.le_refl _) (by simp) : Below w5.heap.size w5 w6).mono HB5.out.size))
              clear h6 hg6
              go_wp2_with fail
              go_roundw
              case rel => exact ⟨k + 1, by omega, by go_num, HB6.out⟩
              case measure => simp [intOf]; omega
            · have f1 : decide ((at_ : Int) < m) = true := decide_eq_true m1
              have f2 : decide (m ≤ 1099511627776) = false := decide_eq_false m2
              have HCC := Lib.hid (fun W => HCB.out W (.inr (.inl (by omega))))
              clear hfit
              go_wp2_with (refine wpList_load_mid rfl 26 (.tmp 84) rfl b (o + at_ * 32) rfl (d.map bv) _ HRD.out digest_und rfl HI.out ?_)
              refine (HCC.out wr).mono ?_
              rintro e w5 ⟨rfl, hb5⟩
              have HSX : Hid ((Tryd.prog.info? 26).map (·.size) = some (bvA zero32).size) := by show _ = _; rw [bvA_size, HZ32.out]; exact sha_size
              have HOX : Hid ((bvA (List.replicate 32 0)).size = (bvA zero32).size) := by show _ = _; rw [bvA_size, bvA_size, HZ32.out, List.length_replicate]
              have HB5 := Lib.hid (HBr.out.trans (hb5.mono HBr.out.size))
              clear hb5
              go_wp2_with (refine wpList_storeA rfl 26 (.tmp 13) (.tmp 90) rfl w5.heap.size (bvA zero32) rfl rfl 26 (bvA (List.replicate 32 0)) (heap_alloc_new w5 _) HSX.out HOX.out (bvA_one _) ?_)
              intro w6 h6 hg6
              have HB6 := Lib.hid (HB5.out.trans ((grown_below ((Below.refl _ _).alloc (Nat.le_refl _) _) hg6 (Nat.le_refl _) (by simp) : Below w5.heap.size w5 w6).mono HB5.out.size))
              clear h6 hg6
              go_wp2_with fail
              go_roundw
              case rel => exact ⟨k + 1, by omega, by go_num, HB6.out⟩
              case measure => simp [intOf]; omega
          · have f1 : decide ((at_ : Int) < m) = false := decide_eq_false m1
            have HCC := Lib.hid (fun W => HCB.out W (.inr (.inr (.inr (.inl (by omega))))))
            clear hfit
            go_wp2_with (refine wpList_load_mid rfl 26 (.tmp 84) rfl b (o + at_ * 32) rfl (d.map bv) _ HRD.out digest_und rfl HI.out ?_)
            refine (HCC.out wr).mono ?_
            rintro e w5 ⟨rfl, hb5⟩
            have HSX : Hid ((Tryd.prog.info? 26).map (·.size) = some (bvA zero32).size) := by show _ = _; rw [bvA_size, HZ32.out]; exact sha_size
            have HOX : Hid ((bvA (List.replicate 32 0)).size = (bvA zero32).size) := by show _ = _; rw [bvA_size, bvA_size, HZ32.out, List.length_replicate]
            have HB5 := Lib.hid (HBr.out.trans (hb5.mono HBr.out.size))
            clear hb5
            go_wp2_with (refine wpList_storeA rfl 26 (.tmp 13) (.tmp 90) rfl w5.heap.size (bvA zero32) rfl rfl 26 (bvA (List.replicate 32 0)) (heap_alloc_new w5 _) HSX.out HOX.out (bvA_one _) ?_)
            intro w6 h6 hg6
            have HB6 := Lib.hid (HB5.out.trans ((grown_below ((Below.refl _ _).alloc (Nat.le_refl _) _) hg6 (Nat.le_refl _) (by simp) : Below w5.heap.size w5 w6).mono HB5.out.size))
            clear h6 hg6
            go_wp2_with fail
            go_roundw
            case rel => exact ⟨k + 1, by omega, by go_num, HB6.out⟩
            case measure => simp [intOf]; omega
      · obtain rfl : k = 4 := by omega
        have HBw := Lib.hid (HB4.out.trans (hb.mono HB4.out.size))
        go_wp2_with fail
        go_ret
        exact ⟨rfl, HBw.out⟩
end Go.Proofs.YtndbhmipehpebaaDoor
