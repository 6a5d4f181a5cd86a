/-
  The reference's Check and Same.
-/
import Derived.Test.YtecojpkefobgpaaGreatDoorHl
import Derived.Laws.StructEq
namespace Go.Proofs.YtecojpkefobgpaaGreatDoor
open Go.RowKit
set_option linter.unusedVariables false
set_option linter.unusedSimpArgs false

/-- The place before. -/
def prevP (l : List Sh) : Nat → Int
  | 0 => 0
  | k + 1 => (l.getD k (0, 0)).1

set_option maxRecDepth 100000 in
set_option maxHeartbeats 4000000 in
theorem rCheck8_any (a : Option Addr) (cap : Nat) (l : List Sh) (w : World) (hl : RdS w.heap.size w a l) :
    Calls Tryz.prog 13 #[.slice a l.length cap] w fun e w' => e = .returned (.int .i64 (errV l)) ∧ Below w.heap.size w w' := by
  have HR := Lib.hid hl
  have hm := hl.1
  unfold maxLen at hm
  clear hl
  have HB0 := Lib.hid (Below.refl w.heap.size w)
  by_cases h1 : l.length < 1
  · rw [errV_bad (okS_short h1)]
    have f1 : decide ((l.length : Int) < 1) = true := decide_eq_true (by omega)
    generalize l.length = n at *
    go_enter Tryz.func13, Tryz.ntmps13
    go_wp2_with fail
    go_ret
    exact ⟨rfl, HB0.out⟩
  have f1 : decide ((l.length : Int) < 1) = false := decide_eq_false (by omega)
  by_cases h2 : 64 < l.length
  · rw [errV_bad (okS_long h2)]
    have f2 : decide (64 < (l.length : Int)) = true := decide_eq_true (by omega)
    generalize l.length = n at *
    go_enter Tryz.func13, Tryz.ntmps13
    go_wp2_with fail
    go_ret
    exact ⟨rfl, HB0.out⟩
  have f2 : decide (64 < (l.length : Int)) = false := decide_eq_false (by omega)
  obtain ⟨b, o, rfl, hbB, hc⟩ := HR.out.at_ (by omega)
  have HC := Lib.hid hc
  obtain ⟨R, hR⟩ : ∃ R : Int, errV l = R := ⟨_, rfl⟩
  have HRR : Hid ((if chkL 0 l = true then (0 : Int) else 80) = R) := Lib.hid (by rw [← hR]; unfold errV; rw [okS_mid (by omega) (by omega)])
  rw [hR]
  obtain ⟨C, hC⟩ : ∃ C, chkL 0 l = C := ⟨_, rfl⟩
  have HCC : Hid (chkL (prevP l 0) (l.drop 0) = C) := Lib.hid hC
  rw [hC] at HRR
  obtain ⟨n, hn⟩ : ∃ n, l.length = n := ⟨_, rfl⟩
  have HN := Lib.hid hn
  rw [hn] at hm f1 f2 h1 h2 ⊢
  have hn64 : n ≤ 64 := by omega
  clear hc hC hn HR hR
  go_enter Tryz.func13, Tryz.ntmps13
  go_wp2_with fail
  go_loopw [3] (fun i wr => ∃ (k : Nat), k ≤ n ∧ i = .int .i64 k ∧ chkL (prevP l k) (l.drop k) = C ∧ 0 ≤ prevP l k ∧ Below w.heap.size w wr) (fun i _ => n - (intOf i).toNat)
  case atStart => exact ⟨0, by omega, rfl, HCC.out, Int.le_refl _, HB0.out⟩
  case round =>
    clear HCC HB0
    obtain ⟨k, hk, rfl, hq, hp0, hb⟩ := hrel
    have HB := Lib.hid hb
    by_cases hlt : k < n
    · have hkl : k < l.length := by rw [HN.out]; exact hlt
      obtain ⟨c0, c1⟩ := HC.out k hkl
      have d0 := (hb.cell (p := ⟨b, o + k * 2, none⟩) hbB).trans c0
      have d1 := (hb.cell (p := ⟨b, o + k * 2 + 1, none⟩) hbB).trans c1
      rw [List.drop_eq_getElem_cons hkl, chkL_cons] at hq
      have HNX : Hid (prevP l (k + 1) = l[k].1) := Lib.hid (by show (l.getD k (0, 0)).1 = _; simp [List.getD, hkl])
      have HPV : Hid (∀ j, k = j + 1 → wr.cell? ⟨b, o + j * 2, none⟩ = some (.int .i64 (prevP l k))) := Lib.hid (fun j hj => by
        subst hj
        have hjl : j < l.length := by omega
        rw [show prevP l (j + 1) = l[j].1 by show (l.getD j (0, 0)).1 = _; simp [List.getD, hjl]]
        exact (hb.cell (p := ⟨b, o + j * 2, none⟩) hbB).trans (HC.out j hjl).1)
      have HP00 : Hid (k = 0 → prevP l k = 0) := Lib.hid (fun h => by subst h; rfl)
      have HQ := Lib.hid hq
      generalize prevP l k = q at *
      generalize l[k] = s at *
      obtain ⟨s0, s1⟩ := s
      have HNX2 : Hid (prevP l (k + 1) = s0) := HNX
      have HQ0 : Hid (((decide (q < s0) && decide (s0 ≤ 64) && scal s1) && chkL s0 (l.drop (k + 1))) = C) := HQ
      clear c0 c1 hq hb HQ HNX
      have KS : Hid (∀ W, Calls Tryz.prog 21 #[.int .i64 s1] W fun e w' => e = .returned (.bool (scal s1)) ∧ w' = W) := Lib.hid (fun W => scalar8_any s1 W)
      by_cases g1 : s0 < 1
      · have e1 : decide (s0 < 1) = true := decide_eq_true g1
        have HF : Hid (80 = R) := Lib.hid (by rw [← HRR.out, ← HQ0.out, decide_eq_false (show ¬ q < s0 by omega)]; rfl)
        go_wp2_with fail
        go_quiet (fail)
        go_wp2_with fail
        go_ret
        exact ⟨by rw [← HF.out]; rfl, below_dNk HB.out _⟩
      have e1 : decide (s0 < 1) = false := decide_eq_false g1
      by_cases g2 : 64 < s0
      · have e2 : decide (64 < s0) = true := decide_eq_true g2
        have HF : Hid (80 = R) := Lib.hid (by rw [← HRR.out, ← HQ0.out, decide_eq_false (show ¬ s0 ≤ 64 by omega)]; simp)
        go_wp2_with fail
        go_quiet (fail)
        go_wp2_with fail
        go_ret
        exact ⟨by rw [← HF.out]; rfl, below_dNk HB.out _⟩
      have e2 : decide (64 < s0) = false := decide_eq_false g2
      have HQ2 : Hid ((decide (q < s0) && (scal s1 && chkL s0 (l.drop (k + 1)))) = C) := Lib.hid (by rw [← HQ0.out, decide_eq_true (show s0 ≤ 64 by omega), Bool.and_true, Bool.and_assoc])
      clear HQ0
      by_cases hk0 : k = 0
      · have hq0 := HP00.out hk0
        have e3 : decide (0 < (k : Int)) = false := decide_eq_false (by omega)
        have e3' : decide (0 < k) = false := decide_eq_false (by omega)
        have HQ4 : Hid ((scal s1 && chkL s0 (l.drop (k + 1))) = C) := Lib.hid (by rw [← HQ2.out, decide_eq_true (show q < s0 by omega), Bool.true_and])
        clear HQ2 HP00 HPV hk0 hq0
        cases hsc : scal s1
        · rw [hsc] at KS
          have HF : Hid (80 = R) := Lib.hid (by rw [← HRR.out, ← HQ4.out, hsc]; rfl)
          go_wp2_with fail
          go_quiet (first | (go_at_call 21; exact Calls.quiet_of_same (KS.out _)))
          go_wp2_with fail
          go_ret
          exact ⟨by rw [← HF.out]; rfl, below_dNk HB.out _⟩
        · rw [hsc] at KS
          have HQ3 : Hid (chkL s0 (l.drop (k + 1)) = C) := Lib.hid (by rw [← HQ4.out, hsc]; rfl)
          go_wp2_with fail
          go_quiet (first | (go_at_call 21; exact Calls.quiet_of_same (KS.out _)))
          go_wp2_with fail
          go_roundw
          case rel => exact ⟨k + 1, by omega, by go_num, by rw [HNX2.out]; exact HQ3.out, by rw [HNX2.out]; omega, below_dNk HB.out _⟩
          case measure => simp [intOf]; omega
      · obtain ⟨j, rfl⟩ : ∃ j, k = j + 1 := ⟨k - 1, by omega⟩
        have d2 := HPV.out j rfl
        have e3 : decide (0 < ((j + 1 : Nat) : Int)) = true := decide_eq_true (by omega)
        have e4 : ((j + 1 : Nat) : Int) - 1 = (j : Int) := by omega
        have e5 := wrapI (((j + 1 : Nat) : Int) - 1) (by omega) (by omega)
        clear HP00 HPV
        by_cases g3 : s0 ≤ q
        · have e6 : decide (s0 ≤ q) = true := decide_eq_true g3
          have HF : Hid (80 = R) := Lib.hid (by rw [← HRR.out, ← HQ2.out, decide_eq_false (show ¬ q < s0 by omega)]; rfl)
          go_wp2_with fail
          go_quiet (fail)
          go_wp2_with fail
          go_ret
          exact ⟨by rw [← HF.out]; rfl, below_dNk HB.out _⟩
        have e6 : decide (s0 ≤ q) = false := decide_eq_false g3
        have HQ4 : Hid ((scal s1 && chkL s0 (l.drop (j + 1 + 1))) = C) := Lib.hid (by rw [← HQ2.out, decide_eq_true (show q < s0 by omega), Bool.true_and])
        clear HQ2
        cases hsc : scal s1
        · rw [hsc] at KS
          have HF : Hid (80 = R) := Lib.hid (by rw [← HRR.out, ← HQ4.out, hsc]; rfl)
          go_wp2_with fail
          go_quiet (first | (go_at_call 21; exact Calls.quiet_of_same (KS.out _)))
          go_wp2_with fail
          go_ret
          exact ⟨by rw [← HF.out]; rfl, below_dNk HB.out _⟩
        · rw [hsc] at KS
          have HQ3 : Hid (chkL s0 (l.drop (j + 1 + 1)) = C) := Lib.hid (by rw [← HQ4.out, hsc]; rfl)
          go_wp2_with fail
          go_quiet (first | (go_at_call 21; exact Calls.quiet_of_same (KS.out _)))
          go_wp2_with fail
          go_roundw
          case rel => exact ⟨j + 1 + 1, by omega, by go_num, by rw [HNX2.out]; exact HQ3.out, by rw [HNX2.out]; omega, below_dNk HB.out _⟩
          case measure => simp [intOf]; omega
    · obtain rfl : k = n := by omega
      have HF : Hid (0 = R) := Lib.hid (by rw [← HRR.out, ← hq, ← HN.out, List.drop_length]; rfl)
      clear hq
      go_wp2_with fail
      go_ret
      exact ⟨by rw [← HF.out]; rfl, HB.out⟩

/-- Whether two lists of shares are equal. -/
def sameB (l m : List Sh) : Bool := decide (l = m)
theorem sameB_cons (s t : Sh) (l m : List Sh) : sameB (s :: l) (t :: m) = ((s.1 == t.1 && s.2 == t.2) && sameB l m) := by
  unfold sameB
  rw [Bool.eq_iff_iff, decide_eq_true_eq, List.cons.injEq, Bool.and_eq_true, Bool.and_eq_true, beq_iff_eq, beq_iff_eq, decide_eq_true_eq, Prod.ext_iff]
theorem sameB_len {l m : List Sh} (h : l.length ≠ m.length) : sameB l m = false := decide_eq_false fun e => h (by rw [e])
theorem sameB_self (l : List Sh) : sameB l l = true := decide_eq_true rfl

set_option maxRecDepth 100000 in
set_option maxHeartbeats 2000000 in
theorem same8_any (a : Option Addr) (cap : Nat) (l : List Sh) (a' : Option Addr) (cap' : Nat) (m : List Sh) (w : World) (hl : RdS w.heap.size w a l) (hm : RdS w.heap.size w a' m) (h64 : l.length ≤ 1000) :
    Calls Tryz.prog 11 #[.slice a l.length cap, .slice a' m.length cap'] w fun e w' => e = .returned (.bool (sameB l m)) ∧ Below w.heap.size w w' := by
  have HB0 := Lib.hid (Below.refl w.heap.size w)
  by_cases hne : l.length = m.length
  · have f1 : ((l.length : Int) != (m.length : Int)) = false := by rw [hne]; simp
    obtain ⟨C, hC⟩ : ∃ C, sameB l m = C := ⟨_, rfl⟩
    rw [hC]
    have HC0 : Hid (sameB (l.drop 0) (m.drop 0) = C) := Lib.hid hC
    have HL := Lib.hid hl
    have HM := Lib.hid hm
    obtain ⟨n, hn⟩ : ∃ n, l.length = n := ⟨_, rfl⟩
    have hmn : m.length = n := by omega
    have HN := Lib.hid hn
    have HMN := Lib.hid hmn
    rw [hn] at h64 f1 ⊢
    rw [hmn] at f1 ⊢
    clear hl hm hn hmn hne hC
    go_enter Tryz.func11, Tryz.ntmps11
    go_wp2_with fail
    go_loopw [5] (fun i wr => ∃ j : Nat, j ≤ n ∧ i = .int .i64 j ∧ sameB (l.drop j) (m.drop j) = C ∧ Below w.heap.size w wr) (fun i _ => n - (intOf i).toNat)
    case atStart => exact ⟨0, by omega, rfl, HC0.out, HB0.out⟩
    case round =>
      clear HC0 HB0
      obtain ⟨j, hj, rfl, hq, hb⟩ := hrel
      have HB := Lib.hid hb
      by_cases hlt : j < n
      · have hjl : j < l.length := by rw [HN.out]; exact hlt
        have hjm : j < m.length := by rw [HMN.out]; exact hlt
        obtain ⟨b, o, rfl, hbB, hc⟩ := HL.out.at_ (by omega)
        obtain ⟨b', o', rfl, hbB', hc'⟩ := HM.out.at_ (by omega)
        obtain ⟨c0, c1⟩ := hc j hjl
        obtain ⟨c0', c1'⟩ := hc' j hjm
        have d0 := (hb.cell (p := ⟨b, o + j * 2, none⟩) hbB).trans c0
        have d1 := (hb.cell (p := ⟨b, o + j * 2 + 1, none⟩) hbB).trans c1
        have e0 := (hb.cell (p := ⟨b', o' + j * 2, none⟩) hbB').trans c0'
        have e1 := (hb.cell (p := ⟨b', o' + j * 2 + 1, none⟩) hbB').trans c1'
        rw [List.drop_eq_getElem_cons hjl, List.drop_eq_getElem_cons hjm, sameB_cons] at hq
        have HQ := Lib.hid hq
        generalize l[j] = s at *
        generalize m[j] = t at *
        obtain ⟨s0, s1⟩ := s
        obtain ⟨t0, t1⟩ := t
        have HQ2 : Hid (((s0 == t0 && s1 == t1) && sameB (l.drop (j + 1)) (m.drop (j + 1))) = C) := HQ
        clear hc hc' c0 c1 c0' c1' hb hq HQ
        cases hst : (s0 == t0 && s1 == t1)
        · rw [hst, Bool.false_and] at HQ2
          cases h0 : (s0 == t0)
          · have n0 : ¬ s0 = t0 := by simpa using h0
            go_wp2_with fail
            go_quiet (fail)
            go_wp2_with fail
            go_ret
            exact ⟨by rw [← HQ2.out]; rfl, below_dNk HB.out _⟩
          · have n0 : s0 = t0 := by simpa using h0
            have n1 : ¬ s1 = t1 := by rw [h0, Bool.true_and] at hst; simpa using hst
            have h1 : (s1 == t1) = false := by rw [h0, Bool.true_and] at hst; exact hst
            clear hst
            go_wp2_with fail
            go_quiet (fail)
            go_wp2_with fail
            go_ret
            exact ⟨by rw [← HQ2.out]; rfl, below_dNk HB.out _⟩
        · rw [hst, Bool.true_and] at HQ2
          simp only [Bool.and_eq_true, beq_iff_eq] at hst
          obtain ⟨rfl, rfl⟩ := hst
          go_wp2_with fail
          go_quiet (fail)
          go_wp2_with fail
          go_roundw
          case rel => exact ⟨j + 1, by omega, by go_num, HQ2.out, below_dNk HB.out _⟩
          case measure => simp [intOf]; omega
      · obtain rfl : j = n := by omega
        have HF : Hid (true = C) := Lib.hid (by
          have h1 := HN.out
          have h2 := HMN.out
          rw [← hq, List.drop_eq_nil_of_le (by omega), List.drop_eq_nil_of_le (by omega)]; rfl)
        clear hq
        go_wp2_with fail
        go_ret
        exact ⟨by rw [← HF.out]; rfl, HB.out⟩
  · have f1 : ((l.length : Int) != (m.length : Int)) = true := by simp; omega
    rw [sameB_len hne]
    clear hne
    generalize l.length = n at *
    generalize m.length = n' at *
    go_enter Tryz.func11, Tryz.ntmps11
    go_wp2_with fail
    go_ret
    exact ⟨rfl, HB0.out⟩
end Go.Proofs.YtecojpkefobgpaaGreatDoor
