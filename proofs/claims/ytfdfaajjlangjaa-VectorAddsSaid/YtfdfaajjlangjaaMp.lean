/-
  Package vector: At, Check of one and of both, Covers.
-/
import Derived.Test.YtfdfaajjlangjaaMm
import Derived.Test.YtfdfaajjlangjaaMe
import Derived.Test.YtfdfaajjlangjaaMg
namespace Go.Proofs.Ytfdfaajjlangjaa
open Go.RowKit
set_option linter.unusedVariables false
set_option linter.unusedSimpArgs false

/-- The last device so far; -1 if there is none. -/
def bfV (l : List Dt) : Int := match l.getLast? with
  | none => -1
  | some d => d.1
theorem bfV_snoc (l : List Dt) (d : Dt) : bfV (l ++ [d]) = d.1 := by simp [bfV]
theorem bfV_ge {l : List Dt} (h : okV l) : -1 ≤ bfV l := by
  unfold bfV
  cases hl : l.getLast? with
  | none => simp
  | some d => have := okV_dot h d (List.mem_of_getLast? hl); unfold dotP at this; simp only; omega
theorem chk_step {p : List Dt} {d : Dt} (hp : okV p) : okV (p ++ [d]) ↔ bfV p < d.1 ∧ d.1 < 512 ∧ 1 ≤ d.2 ∧ d.2 ≤ 1048576 := by
  rcases List.eq_nil_or_concat p with rfl | ⟨q, e, rfl⟩
  · rw [show bfV [] = -1 from rfl]
    show dotP d ∧ (∀ e ∈ ([] : List Dt), d.1 < e.1) ∧ okV [] ↔ _
    unfold dotP
    constructor
    · rintro ⟨h, -⟩; omega
    · intro h; exact ⟨by omega, fun e he => (by cases he), trivial⟩
  · have hb := bfV_ge hp
    rw [List.concat_eq_append] at hp hb ⊢
    rw [bfV_snoc] at hb ⊢
    rw [okV_next]
    unfold dotP
    constructor
    · rintro ⟨_, h, h2⟩; omega
    · intro h; exact ⟨hp, by omega, by omega⟩

set_option maxRecDepth 100000 in
set_option maxHeartbeats 800000 in
theorem At_any (a : Option Addr) (cap : Nat) (l : List Dt) (k : Int) (w : World) (hl : RdDt w.heap.size w a l) :
    Calls Try.prog 16 #[.slice a l.length cap, .int .i64 k] w fun e w' => e = .returned (.int .i64 (atV l k)) ∧ Below w.heap.size w w' := by
  have HRd := Lib.hid hl
  have hm := hl.1
  unfold maxLen at hm
  obtain ⟨R, hR⟩ := exEqD (atV l k)
  rw [hR]
  have HRR : Hid (atV (l.drop 0) k = R) := Lib.hid hR
  have HB0 : Hid (Below w.heap.size w w) := Lib.hid (Below.refl _ _)
  obtain ⟨n, hn⟩ := exEqD l.length
  have HN := Lib.hid hn
  rw [hn] at hm ⊢
  clear hl hR hn
  go_enter Try.func16, Try.ntmps16
  go_wp2_with fail
  go_loopw [9] (fun i wr => ∃ j : Nat, j ≤ n ∧ i = .int .i64 j ∧ atV (l.drop j) k = R ∧ Below w.heap.size w wr) (fun i _ => n - (intOf i).toNat)
  case atStart => exact ⟨0, by omega, rfl, HRR.out, HB0.out⟩
  case round =>
    clear HRR HB0
    obtain ⟨j, hj, rfl, hq, hb⟩ := hrel
    have HB := Lib.hid hb
    by_cases hlt : j < n
    · have hjl : j < l.length := by rw [HN.out]; exact hlt
      obtain ⟨b, o, rfl, hbB, hc⟩ := HRd.out.at_ (by omega)
      have d0 := (hb.cell (p := ⟨b, o + j * 2, none⟩) hbB).trans (hc j hjl).1
      have d1 := (hb.cell (p := ⟨b, o + j * 2 + 1, none⟩) hbB).trans (hc j hjl).2
      rw [List.drop_eq_getElem_cons hjl, atV_cons] at hq
      have HQ := Lib.hid hq
      generalize l[j] = s at *
      clear hc hq
      have HA := Lib.hid (HB.out.trans (((Below.refl wr.heap.size wr).alloc (Nat.le_refl _) (.cells #[.int .i64 s.1, .int .i64 s.2] 24)).mono HB.out.size))
      have b0 : (0 : Int) ≤ (j : Int) := Int.natCast_nonneg _
      have b1 : (j : Int) < (n : Int) := by omega
      clear hb
      by_cases g : s.1 = k
      · have f1 : (s.1 == k) = true := beq_iff_eq.2 g
        have HV : Hid (s.2 = R) := Lib.hid (by rw [← HQ.out, if_pos g])
        rw [g] at HA
        clear HQ
        go_wp2_with fail
        go_ret
        exact ⟨by rw [← HV.out]; rfl, HA.out⟩
      · have f1 : (s.1 == k) = false := beq_eq_false_iff_ne.2 g
        have HV : Hid (atV (l.drop (j + 1)) k = R) := Lib.hid (by rw [← HQ.out, if_neg g])
        clear HQ
        go_wp2_with fail
        go_roundw
        case rel => exact ⟨j + 1, by omega, by go_num, HV.out, HA.out⟩
        case measure => simp [intOf]; omega
    · obtain rfl : j = n := by omega
      have HV : Hid (0 = R) := Lib.hid (by rw [← hq, List.drop_eq_nil_of_le (by rw [HN.out]; exact Nat.le_refl _)]; rfl)
      clear hq hb
      go_wp2_with fail
      go_ret
      exact ⟨by rw [← HV.out]; rfl, HB.out⟩

set_option maxRecDepth 100000 in
set_option maxHeartbeats 800000 in
theorem Check12_any (a : Option Addr) (cap : Nat) (l : List Dt) (w : World) (hl : RdDt w.heap.size w a l) :
    Calls Try.prog 14 #[.slice a l.length cap] w fun e w' => e = .returned (.int .i64 (chV l)) ∧ Below w.heap.size w w' := by
  have HRd := Lib.hid hl
  have hm := hl.1
  unfold maxLen at hm
  have HOK := Lib.hid (fun h : okV l => (chV_ok h).symm)
  have HBAD := Lib.hid (fun h : ¬ okV l => (chV_bad h).symm)
  obtain ⟨R, hR⟩ := exEqD (chV l)
  rw [hR] at HOK HBAD ⊢
  obtain ⟨n, hn⟩ := exEqD l.length
  have HN := Lib.hid hn
  have HT := Lib.hid (fun i => ok_take (l := l) i)
  rw [hn] at hm ⊢
  have HB0 := Lib.hid (Below.refl w.heap.size w)
  clear hl hR hn
  go_enter Try.func14, Try.ntmps14
  go_wp2_with fail
  go_loopw [3, 8] (fun bf i wr => ∃ j : Nat, j ≤ n ∧ i = .int .i64 j ∧ bf = .int .i64 (bfV (l.take j)) ∧ okV (l.take j) ∧ Below w.heap.size w wr) (fun _ i _ => n - (intOf i).toNat)
  case atStart => exact ⟨0, by omega, rfl, rfl, trivial, HB0.out⟩
  case round =>
    clear HB0
    obtain ⟨j, hj, rfl, rfl, hq, hb⟩ := hrel
    have HQ := Lib.hid hq
    have HB := Lib.hid hb
    by_cases hlt : j < n
    · have hjl : j < l.length := by rw [HN.out]; exact hlt
      obtain ⟨b, o, rfl, hbB, hc⟩ := HRd.out.at_ (by omega)
      have d0 := (hb.cell (p := ⟨b, o + j * 2, none⟩) hbB).trans (hc j hjl).1
      have d1 := (hb.cell (p := ⟨b, o + j * 2 + 1, none⟩) hbB).trans (hc j hjl).2
      have b0 : (0 : Int) ≤ (j : Int) := Int.natCast_nonneg _
      have b1 : (j : Int) < (n : Int) := by omega
      have HS := Lib.hid (List.take_succ_eq_append_getElem hjl)
      clear hc hb hq
      obtain ⟨bf, hbf⟩ := exEqD (bfV (l.take j))
      rw [hbf]
      have HBF := Lib.hid hbf
      clear hbf
      by_cases h0 : l[j].1 ≤ bf
      · have HV : Hid (120 = R) := Lib.hid (HBAD.out (ok_take (j + 1) (by rw [HS.out, chk_step HQ.out, HBF.out]; omega)))
        clear HQ HS HT HOK HBAD HBF
        generalize l[j] = s at *
        have HA := Lib.hid (HB.out.trans (((Below.refl wr.heap.size wr).alloc (Nat.le_refl _) (.cells #[.int .i64 s.1, .int .i64 s.2] 24)).mono HB.out.size))
        have g0 : decide (s.1 ≤ bf) = true := decide_eq_true (by omega)
        clear h0
        go_wp2_with fail
        go_ret
        exact ⟨by rw [← HV.out]; rfl, HA.out⟩
      · by_cases h1 : 512 ≤ l[j].1
        · have HV : Hid (120 = R) := Lib.hid (HBAD.out (ok_take (j + 1) (by rw [HS.out, chk_step HQ.out, HBF.out]; omega)))
          clear HQ HS HT HOK HBAD HBF
          generalize l[j] = s at *
          have HA := Lib.hid (HB.out.trans (((Below.refl wr.heap.size wr).alloc (Nat.le_refl _) (.cells #[.int .i64 s.1, .int .i64 s.2] 24)).mono HB.out.size))
          have g0 : decide (s.1 ≤ bf) = false := decide_eq_false (by omega)
          have g1 : decide (512 ≤ s.1) = true := decide_eq_true (by omega)
          clear h0 h1
          go_wp2_with fail
          go_ret
          exact ⟨by rw [← HV.out]; rfl, HA.out⟩
        · by_cases h2 : l[j].2 < 1
          · have HV : Hid (120 = R) := Lib.hid (HBAD.out (ok_take (j + 1) (by rw [HS.out, chk_step HQ.out, HBF.out]; omega)))
            clear HQ HS HT HOK HBAD HBF
            generalize l[j] = s at *
            have HA := Lib.hid (HB.out.trans (((Below.refl wr.heap.size wr).alloc (Nat.le_refl _) (.cells #[.int .i64 s.1, .int .i64 s.2] 24)).mono HB.out.size))
            have g0 : decide (s.1 ≤ bf) = false := decide_eq_false (by omega)
            have g1 : decide (512 ≤ s.1) = false := decide_eq_false (by omega)
            have g2 : decide (s.2 < 1) = true := decide_eq_true (by omega)
            clear h0 h1 h2
            go_wp2_with fail
            go_ret
            exact ⟨by rw [← HV.out]; rfl, HA.out⟩
          · by_cases h3 : 1048576 < l[j].2
            · have HV : Hid (120 = R) := Lib.hid (HBAD.out (ok_take (j + 1) (by rw [HS.out, chk_step HQ.out, HBF.out]; omega)))
              clear HQ HS HT HOK HBAD HBF
              generalize l[j] = s at *
              have HA := Lib.hid (HB.out.trans (((Below.refl wr.heap.size wr).alloc (Nat.le_refl _) (.cells #[.int .i64 s.1, .int .i64 s.2] 24)).mono HB.out.size))
              have g0 : decide (s.1 ≤ bf) = false := decide_eq_false (by omega)
              have g1 : decide (512 ≤ s.1) = false := decide_eq_false (by omega)
              have g2 : decide (s.2 < 1) = false := decide_eq_false (by omega)
              have g3 : decide (1048576 < s.2) = true := decide_eq_true (by omega)
              clear h0 h1 h2 h3
              go_wp2_with fail
              go_ret
              exact ⟨by rw [← HV.out]; rfl, HA.out⟩
            · have HNX : Hid (okV (l.take (j + 1))) := Lib.hid (by rw [HS.out, chk_step HQ.out, HBF.out]; omega)
              have HBN : Hid (bfV (l.take (j + 1)) = l[j].1) := Lib.hid (by rw [HS.out, bfV_snoc])
              clear HQ HS HT HOK HBAD HBF
              generalize l[j] = s at *
              have HA := Lib.hid (HB.out.trans (((Below.refl wr.heap.size wr).alloc (Nat.le_refl _) (.cells #[.int .i64 s.1, .int .i64 s.2] 24)).mono HB.out.size))
              have g0 : decide (s.1 ≤ bf) = false := decide_eq_false (by omega)
              have g1 : decide (512 ≤ s.1) = false := decide_eq_false (by omega)
              have g2 : decide (s.2 < 1) = false := decide_eq_false (by omega)
              have g3 : decide (1048576 < s.2) = false := decide_eq_false (by omega)
              clear h0 h1 h2 h3
              go_wp2_with fail
              go_roundw
              case rel => exact ⟨j + 1, by omega, by go_num, by rw [HBN.out], HNX.out, HA.out⟩
              case measure => simp [intOf]; omega
    · obtain rfl : j = n := by omega
      have HV : Hid (0 = R) := Lib.hid (HOK.out (by have := HQ.out; rw [← HN.out, List.take_length] at this; exact this))
      clear hq hb
      go_wp2_with fail
      go_ret
      exact ⟨by rw [← HV.out]; rfl, HB.out⟩

set_option maxRecDepth 100000 in
set_option maxHeartbeats 800000 in
theorem Check2_any (a : Option Addr) (cap : Nat) (l : List Dt) (a2 : Option Addr) (cap2 : Nat) (m : List Dt) (w : World) (hl : RdDt w.heap.size w a l) (hm : RdDt w.heap.size w a2 m) :
    Calls Try.prog 28 #[.slice a l.length cap, .slice a2 m.length cap2] w fun e w' => e = .returned (.int .i64 (ch2 l m)) ∧ Below w.heap.size w w' := by
  have K1 := Lib.hid (Check12_any a cap l w hl)
  have K2 := Lib.hid (fun W (h : Below w.heap.size w W) => Check12_any a2 cap2 m W (hm.call h))
  have HB0 := Lib.hid (Below.refl w.heap.size w)
  unfold ch2
  generalize l.length = n at *
  generalize m.length = q at *
  clear hl hm
  by_cases h : okV l
  · rw [chV_ok h] at K1
    rw [if_pos h]
    generalize chV m = c at *
    clear h
    go_enter Try.func28, Try.ntmps28
    go_wp2_with fail
    with_reducible refine K1.out.mono ?_
    rintro e w1 ⟨rfl, hb⟩
    have HB1 := nextB HB0 hb
    clear hb
    go_wp2_with fail
    with_reducible refine (K2.out _ HB1.out).mono ?_
    rintro e w2 ⟨rfl, hb⟩
    have HB2 := nextB HB1 hb
    clear hb
    go_wp2_with fail
    go_ret
    exact ⟨rfl, HB2.out⟩
  · rw [chV_bad h] at K1
    rw [if_neg h]
    clear h K2
    go_enter Try.func28, Try.ntmps28
    go_wp2_with fail
    with_reducible refine K1.out.mono ?_
    rintro e w1 ⟨rfl, hb⟩
    have HB1 := nextB HB0 hb
    clear hb
    go_wp2_with fail
    go_ret
    exact ⟨rfl, HB1.out⟩

set_option maxRecDepth 100000 in
set_option maxHeartbeats 800000 in
theorem Covers12_any (a : Option Addr) (cap : Nat) (l : List Dt) (d : Dt) (w : World) (hl : RdDt w.heap.size w a l) :
    Calls Try.prog 18 #[.slice a l.length cap, dtV d] w fun e w' => e = .returned (.bool (decide (covV l d))) ∧ Below w.heap.size w w' := by
  unfold dtV
  have KA := Lib.hid (fun W (h : Below w.heap.size w W) => At_any a cap l d.1 W (hl.call h))
  obtain ⟨wb, hwb⟩ : ∃ wb, wb = w.alloc (.cells #[.int .i64 d.1, .int .i64 d.2] 24) := ⟨_, rfl⟩
  have HB : Hid (Below w.heap.size w wb) := Lib.hid (by rw [hwb]; exact (Below.refl _ _).alloc (Nat.le_refl _) _)
  have HD : Hid (DB wb w.heap.size d) := Lib.hid (by rw [hwb]; exact DB.new w d)
  have HWB : Hid (w.alloc (.cells #[.int .i64 d.1, .int .i64 d.2] 24) = wb) := Lib.hid hwb.symm
  clear hwb
  by_cases h : 1 ≤ d.2
  · have f1 : decide (1 ≤ d.2) = true := decide_eq_true h
    obtain ⟨B, hB⟩ := exEqD (decide (d.2 ≤ atV l d.1))
    rw [show decide (covV l d) = B from by
      rw [← hB]
      unfold covV
      simp [h]]
    obtain ⟨v, hv⟩ := exEqD (atV l d.1)
    rw [hv] at KA hB
    clear hl hv h
    generalize l.length = n at *
    go_enter Try.func18, Try.ntmps18
    go_wp2_with fail
    rw [HWB.out]
    clear HWB
    rename_i K0 hK0
    refine region_writes [5, 6, 7, 8, 9, 10, 11, 12, 13, 14, 15, 16, 4] (fun f W => f 4 = .bool B ∧ Below wb.heap.size wb W) ?_ ?_
    rotate_left
    · clear hK0 K0
      have HE : Hid (Below wb.heap.size wb wb.drew) := Lib.hid ((Below.refl _ _).drew)
      have HSB : Hid (∀ W, Below wb.heap.size wb W → (W.cell? ⟨w.heap.size, 0, none⟩ = some (.int .i64 d.1) ∧ W.cell? ⟨w.heap.size, 1, none⟩ = some (.int .i64 d.2))) := Lib.hid (fun W hW => ⟨(HD.out.call hW).cell0, (HD.out.call hW).cell1⟩)
      refine wp_region_held_drew (S := fun W => W.cell? ⟨w.heap.size, 0, none⟩ = some (.int .i64 d.1) ∧ W.cell? ⟨w.heap.size, 1, none⟩ = some (.int .i64 d.2)) (by kernel_rfl) (HSB.out _ HE.out) (fun hHeld => ?_)
      refine wpAnyH_take (i := 0) (v := .pointer (some ⟨w.heap.size, 1, none⟩)) rfl (by kernel_rfl) (by kernel_rfl) (by kernel_rfl) (fun _ _ _ h => nomatch h.1) (Or.inl ⟨by rfl, fun w _ => by go_simp⟩) hHeld ?_
      simp only [Act.put, List.getElem_toArray, List.getElem_cons_zero, List.getElem_cons_succ, List.setIfInBounds_toArray, List.set_cons_zero, List.set_cons_succ]
      refine wpAnyH_take (i := 1) (v := .int .i64 d.2) rfl (by kernel_rfl) (by kernel_rfl) (by kernel_rfl) (fun _ _ _ h => nomatch h.1) (Or.inl ⟨by rfl, fun w hw => by obtain ⟨h1, h2⟩ := hw; go_simp⟩) hHeld ?_
      simp only [Act.put, List.getElem_toArray, List.getElem_cons_zero, List.getElem_cons_succ, List.setIfInBounds_toArray, List.set_cons_zero, List.set_cons_succ]
      refine wpAnyH_take (i := 2) (v := .bool true) rfl (by kernel_rfl) (by kernel_rfl) (by kernel_rfl) (fun _ _ _ h => nomatch h.1) (Or.inl ⟨by rfl, fun w _ => by go_simp⟩) hHeld ?_
      simp only [Act.put, List.getElem_toArray, List.getElem_cons_zero, List.getElem_cons_succ, List.setIfInBounds_toArray, List.set_cons_zero, List.set_cons_succ]
      refine wpAnyH_take (i := 3) (v := .bool true) rfl (by kernel_rfl) (by kernel_rfl) (by kernel_rfl) (fun _ _ _ h => nomatch h.1) (Or.inl ⟨by rfl, fun w _ => by go_simp⟩) hHeld ?_
      simp only [Act.put, List.getElem_toArray, List.getElem_cons_zero, List.getElem_cons_succ, List.setIfInBounds_toArray, List.set_cons_zero, List.set_cons_succ]
      refine wpAnyH_take (i := 4) (v := .pointer (some ⟨w.heap.size, 1, none⟩)) rfl (by kernel_rfl) (by kernel_rfl) (by kernel_rfl) (fun _ _ _ h => nomatch h.1) (Or.inl ⟨by rfl, fun w _ => by go_simp⟩) hHeld ?_
      simp only [Act.put, List.getElem_toArray, List.getElem_cons_zero, List.getElem_cons_succ, List.setIfInBounds_toArray, List.set_cons_zero, List.set_cons_succ]
      refine wpAnyH_take (i := 5) (v := .int .i64 d.2) rfl (by kernel_rfl) (by kernel_rfl) (by kernel_rfl) (fun _ _ _ h => nomatch h.1) (Or.inl ⟨by rfl, fun w hw => by obtain ⟨h1, h2⟩ := hw; go_simp⟩) hHeld ?_
      simp only [Act.put, List.getElem_toArray, List.getElem_cons_zero, List.getElem_cons_succ, List.setIfInBounds_toArray, List.set_cons_zero, List.set_cons_succ]
      refine wpAnyH_take (i := 6) (v := .slice a n cap) rfl (by kernel_rfl) (by kernel_rfl) (by kernel_rfl) (fun _ _ _ h => nomatch h.1) (Or.inl ⟨by rfl, fun w _ => by go_simp⟩) hHeld ?_
      simp only [Act.put, List.getElem_toArray, List.getElem_cons_zero, List.getElem_cons_succ, List.setIfInBounds_toArray, List.set_cons_zero, List.set_cons_succ]
      refine wpAnyH_take (i := 7) (v := .pointer (some ⟨w.heap.size, 0, none⟩)) rfl (by kernel_rfl) (by kernel_rfl) (by kernel_rfl) (fun _ _ _ h => nomatch h.1) (Or.inl ⟨by rfl, fun w _ => by go_simp⟩) hHeld ?_
      simp only [Act.put, List.getElem_toArray, List.getElem_cons_zero, List.getElem_cons_succ, List.setIfInBounds_toArray, List.set_cons_zero, List.set_cons_succ]
      refine wpAnyH_take (i := 8) (v := .int .i64 d.1) rfl (by kernel_rfl) (by kernel_rfl) (by kernel_rfl) (fun _ _ _ h => nomatch h.1) (Or.inl ⟨by rfl, fun w hw => by obtain ⟨h1, h2⟩ := hw; go_simp⟩) hHeld ?_
      simp only [Act.put, List.getElem_toArray, List.getElem_cons_zero, List.getElem_cons_succ, List.setIfInBounds_toArray, List.set_cons_zero, List.set_cons_succ]
      refine wpAnyH_ready (rs := [9]) (by kernel_rfl) (by simp) (AllReadyH.cons rfl (fun K hK => ?_) AllReadyH.nil)
      rw [if_pos (by rfl)]
      go_simp
      with_reducible refine (KA.out wb.drew (HB.out.trans (HE.out.mono HB.out.size))).mono ?_
      rintro e v1 ⟨rfl, hb⟩
      replace HE := Lib.hid (HE.out.trans (hb.mono HE.out.size))
      clear hb
      refine hK.out _ _ (HSB.out _ HE.out) (fun hHeld => ?_)
      clear hK K
      try simp only [Act.put, List.getElem_toArray, List.getElem_cons_zero, List.getElem_cons_succ, List.setIfInBounds_toArray, List.set_cons_zero, List.set_cons_succ]
      refine wpAnyH_take (i := 10) (v := .bool B) rfl (by kernel_rfl) (by kernel_rfl) (by kernel_rfl) (fun _ _ _ h => nomatch h.1) (Or.inl ⟨by rfl, fun w _ => by go_simp⟩) hHeld ?_
      simp only [Act.put, List.getElem_toArray, List.getElem_cons_zero, List.getElem_cons_succ, List.setIfInBounds_toArray, List.set_cons_zero, List.set_cons_succ]
      refine wpAnyH_take (i := 11) (v := .bool B) rfl (by kernel_rfl) (by kernel_rfl) (by kernel_rfl) (fun _ _ _ h => nomatch h.1) (Or.inl ⟨by rfl, fun w _ => by go_simp⟩) hHeld ?_
      simp only [Act.put, List.getElem_toArray, List.getElem_cons_zero, List.getElem_cons_succ, List.setIfInBounds_toArray, List.set_cons_zero, List.set_cons_succ]
      refine wpAnyH_take (i := 12) (v := .bool B) rfl (by kernel_rfl) (by kernel_rfl) (by kernel_rfl) (fun _ _ _ h => nomatch h.1) (Or.inl ⟨by rfl, fun w _ => by go_simp⟩) hHeld ?_
      simp only [Act.put, List.getElem_toArray, List.getElem_cons_zero, List.getElem_cons_succ, List.setIfInBounds_toArray, List.set_cons_zero, List.set_cons_succ]
      refine wpAnyH_done (by kernel_rfl) ?_ _
      exact ⟨rfl, writes_ex (by kernel_rfl) (⟨rfl, HE.out⟩)⟩
    rintro f w1 ⟨e4, hb1⟩
    have HB1 := nextB HB hb1
    clear hb1
    refine hK0 _ _ ?_
    clear hK0 K0
    simp only [writes, List.foldl_cons, List.foldl_nil, Act.put, List.setIfInBounds_toArray, List.set_cons_zero, List.set_cons_succ]
    rw [e4]
    clear e4
    go_wp2_with fail
    go_ret
    exact ⟨rfl, HB1.out⟩
  · have f1 : decide (1 ≤ d.2) = false := decide_eq_false h
    rw [decide_eq_false (p := covV l d) (fun h2 => h h2.1)]
    clear hl h KA
    generalize l.length = n at *
    go_enter Try.func18, Try.ntmps18
    go_wp2_with fail
    rw [HWB.out]
    clear HWB
    rename_i K0 hK0
    refine region_writes [5, 6, 7, 8, 9, 10, 11, 12, 13, 14, 15, 16, 4] (fun f W => f 4 = .bool false ∧ Below wb.heap.size wb W) ?_ ?_
    rotate_left
    · clear hK0 K0
      have HE : Hid (Below wb.heap.size wb wb.drew) := Lib.hid ((Below.refl _ _).drew)
      have HSB : Hid (∀ W, Below wb.heap.size wb W → (W.cell? ⟨w.heap.size, 0, none⟩ = some (.int .i64 d.1) ∧ W.cell? ⟨w.heap.size, 1, none⟩ = some (.int .i64 d.2))) := Lib.hid (fun W hW => ⟨(HD.out.call hW).cell0, (HD.out.call hW).cell1⟩)
      refine wp_region_held_drew (S := fun W => W.cell? ⟨w.heap.size, 0, none⟩ = some (.int .i64 d.1) ∧ W.cell? ⟨w.heap.size, 1, none⟩ = some (.int .i64 d.2)) (by kernel_rfl) (HSB.out _ HE.out) (fun hHeld => ?_)
      refine wpAnyH_take (i := 0) (v := .pointer (some ⟨w.heap.size, 1, none⟩)) rfl (by kernel_rfl) (by kernel_rfl) (by kernel_rfl) (fun _ _ _ h => nomatch h.1) (Or.inl ⟨by rfl, fun w _ => by go_simp⟩) hHeld ?_
      simp only [Act.put, List.getElem_toArray, List.getElem_cons_zero, List.getElem_cons_succ, List.setIfInBounds_toArray, List.set_cons_zero, List.set_cons_succ]
      refine wpAnyH_take (i := 1) (v := .int .i64 d.2) rfl (by kernel_rfl) (by kernel_rfl) (by kernel_rfl) (fun _ _ _ h => nomatch h.1) (Or.inl ⟨by rfl, fun w hw => by obtain ⟨h1, h2⟩ := hw; go_simp⟩) hHeld ?_
      simp only [Act.put, List.getElem_toArray, List.getElem_cons_zero, List.getElem_cons_succ, List.setIfInBounds_toArray, List.set_cons_zero, List.set_cons_succ]
      refine wpAnyH_take (i := 2) (v := .bool false) rfl (by kernel_rfl) (by kernel_rfl) (by kernel_rfl) (fun _ _ _ h => nomatch h.1) (Or.inl ⟨by rfl, fun w _ => by go_simp⟩) hHeld ?_
      simp only [Act.put, List.getElem_toArray, List.getElem_cons_zero, List.getElem_cons_succ, List.setIfInBounds_toArray, List.set_cons_zero, List.set_cons_succ]
      refine wpAnyH_take (i := 3) (v := .bool false) rfl (by kernel_rfl) (by kernel_rfl) (by kernel_rfl) (fun _ _ _ h => nomatch h.1) (Or.inl ⟨by rfl, fun w _ => by go_simp⟩) hHeld ?_
      simp only [Act.put, List.getElem_toArray, List.getElem_cons_zero, List.getElem_cons_succ, List.setIfInBounds_toArray, List.set_cons_zero, List.set_cons_succ]
      refine wpAnyH_take (i := 4) (v := undef) rfl (by kernel_rfl) (by kernel_rfl) (by kernel_rfl) (fun _ _ _ h => nomatch h.1) (Or.inr ⟨by rfl, rfl⟩) hHeld ?_
      simp only [Act.put, List.getElem_toArray, List.getElem_cons_zero, List.getElem_cons_succ, List.setIfInBounds_toArray, List.set_cons_zero, List.set_cons_succ]
      refine wpAnyH_take (i := 5) (v := undef) rfl (by kernel_rfl) (by kernel_rfl) (by kernel_rfl) (fun _ _ _ h => nomatch h.1) (Or.inr ⟨by rfl, rfl⟩) hHeld ?_
      simp only [Act.put, List.getElem_toArray, List.getElem_cons_zero, List.getElem_cons_succ, List.setIfInBounds_toArray, List.set_cons_zero, List.set_cons_succ]
      refine wpAnyH_take (i := 6) (v := undef) rfl (by kernel_rfl) (by kernel_rfl) (by kernel_rfl) (fun _ _ _ h => nomatch h.1) (Or.inr ⟨by rfl, rfl⟩) hHeld ?_
      simp only [Act.put, List.getElem_toArray, List.getElem_cons_zero, List.getElem_cons_succ, List.setIfInBounds_toArray, List.set_cons_zero, List.set_cons_succ]
      refine wpAnyH_take (i := 7) (v := undef) rfl (by kernel_rfl) (by kernel_rfl) (by kernel_rfl) (fun _ _ _ h => nomatch h.1) (Or.inr ⟨by rfl, rfl⟩) hHeld ?_
      simp only [Act.put, List.getElem_toArray, List.getElem_cons_zero, List.getElem_cons_succ, List.setIfInBounds_toArray, List.set_cons_zero, List.set_cons_succ]
      refine wpAnyH_take (i := 8) (v := undef) rfl (by kernel_rfl) (by kernel_rfl) (by kernel_rfl) (fun _ _ _ h => nomatch h.1) (Or.inr ⟨by rfl, rfl⟩) hHeld ?_
      simp only [Act.put, List.getElem_toArray, List.getElem_cons_zero, List.getElem_cons_succ, List.setIfInBounds_toArray, List.set_cons_zero, List.set_cons_succ]
      refine wpAnyH_take (i := 9) (v := undef) rfl (by kernel_rfl) (by kernel_rfl) (by kernel_rfl) (fun _ _ _ h => nomatch h.1) (Or.inr ⟨by rfl, rfl⟩) hHeld ?_
      simp only [Act.put, List.getElem_toArray, List.getElem_cons_zero, List.getElem_cons_succ, List.setIfInBounds_toArray, List.set_cons_zero, List.set_cons_succ]
      refine wpAnyH_take (i := 10) (v := undef) rfl (by kernel_rfl) (by kernel_rfl) (by kernel_rfl) (fun _ _ _ h => nomatch h.1) (Or.inr ⟨by rfl, rfl⟩) hHeld ?_
      simp only [Act.put, List.getElem_toArray, List.getElem_cons_zero, List.getElem_cons_succ, List.setIfInBounds_toArray, List.set_cons_zero, List.set_cons_succ]
      refine wpAnyH_take (i := 11) (v := .bool false) rfl (by kernel_rfl) (by kernel_rfl) (by kernel_rfl) (fun _ _ _ h => nomatch h.1) (Or.inl ⟨by rfl, fun w _ => by go_simp⟩) hHeld ?_
      simp only [Act.put, List.getElem_toArray, List.getElem_cons_zero, List.getElem_cons_succ, List.setIfInBounds_toArray, List.set_cons_zero, List.set_cons_succ]
      refine wpAnyH_take (i := 12) (v := .bool false) rfl (by kernel_rfl) (by kernel_rfl) (by kernel_rfl) (fun _ _ _ h => nomatch h.1) (Or.inl ⟨by rfl, fun w _ => by go_simp⟩) hHeld ?_
      simp only [Act.put, List.getElem_toArray, List.getElem_cons_zero, List.getElem_cons_succ, List.setIfInBounds_toArray, List.set_cons_zero, List.set_cons_succ]
      refine wpAnyH_done (by kernel_rfl) ?_ _
      exact ⟨rfl, writes_ex (by kernel_rfl) (⟨rfl, HE.out⟩)⟩
    rintro f w1 ⟨e4, hb1⟩
    have HB1 := nextB HB hb1
    clear hb1
    refine hK0 _ _ ?_
    clear hK0 K0
    simp only [writes, List.foldl_cons, List.foldl_nil, Act.put, List.setIfInBounds_toArray, List.set_cons_zero, List.set_cons_succ]
    rw [e4]
    clear e4
    go_wp2_with fail
    go_ret
    exact ⟨rfl, HB1.out⟩

end Go.Proofs.Ytfdfaajjlangjaa
