/-
  Package shamir: calculation with scalars; Check.
-/
import Derived.Test.YtecojpkefobgpaaGreatDoorHb
import Derived.Test.YtecojpkefobgpaaGreatDoorPkF
namespace Go.Proofs.YtecojpkefobgpaaGreatDoor
open Go.RowKit
set_option linter.unusedVariables false
set_option linter.unusedSimpArgs false

theorem plus_any (a b : Nat) (ha : a < 2305843009213688669) (hb : b < 2305843009213688669) (w : World) :
    Calls Tryz.prog 28 #[.int .i64 a, .int .i64 b] w fun e w' => e = .returned (.int .i64 (((a + b) % 2305843009213688669 : Nat) : Int)) ∧ Below w.heap.size w w' := by
  have k := fun w => fAdd a b ha hb w
  generalize (a + b) % 2305843009213688669 = r at k ⊢
  go_enter Tryz.func28, Tryz.ntmps28
  go_wp2_with (go_at_call 45; with_reducible refine (k _).mono ?_; rintro e w1 ⟨rfl, hb⟩)
  go_ret
  exact ⟨rfl, hb⟩
theorem minus_any (a b : Nat) (ha : a < 2305843009213688669) (hb : b < 2305843009213688669) (w : World) :
    Calls Tryz.prog 73 #[.int .i64 a, .int .i64 b] w fun e w' => e = .returned (.int .i64 ((dif a b : Nat) : Int)) ∧ Below w.heap.size w w' := by
  have k := fun w => fSub a b ha hb w
  generalize dif a b = r at k ⊢
  go_enter Tryz.func73, Tryz.ntmps73
  go_wp2_with (go_at_call 90; with_reducible refine (k _).mono ?_; rintro e w1 ⟨rfl, hb⟩)
  go_ret
  exact ⟨rfl, hb⟩
theorem times_any (a b : Nat) (ha : a < 2305843009213688669) (hb : b < 2305843009213688669) (w : World) :
    Calls Tryz.prog 40 #[.int .i64 a, .int .i64 b] w fun e w' => e = .returned (.int .i64 ((a * b % 2305843009213688669 : Nat) : Int)) ∧ Below w.heap.size w w' := by
  have k := fun w => fMul a b ha hb w
  generalize a * b % 2305843009213688669 = r at k ⊢
  go_enter Tryz.func40, Tryz.ntmps40
  go_wp2_with (go_at_call 57; with_reducible refine (k _).mono ?_; rintro e w1 ⟨rfl, hb⟩)
  go_ret
  exact ⟨rfl, hb⟩
theorem svalue_any (a : Option Addr) (cap : Nat) (l : List Int) (x : Nat) (hx : x < 2305843009213688669) (hs : ∀ c ∈ l, scal c = true) (w : World) (hl : RdI w a l) :
    Calls Tryz.prog 20 #[.slice a l.length cap, .int .i64 x] w fun e w' => e = .returned (.int .i64 (evQ x l : Nat)) ∧ Below w.heap.size w w' := by
  have k := fEval a cap l x hx hs w hl
  generalize evQ x l = r at *
  generalize l.length = n at *
  clear hl hs
  go_enter Tryz.func20, Tryz.ntmps20
  go_wp2_with (go_at_call 33; with_reducible refine k.mono ?_; rintro e w1 ⟨rfl, hb⟩)
  go_ret
  exact ⟨rfl, hb⟩
theorem quotient_any (a b : Nat) (ha : a < 2305843009213688669) (hb : b < 2305843009213688669) (h0 : b ≠ 0) (w : World) :
    Calls Tryz.prog 58 #[.int .i64 a, .int .i64 b] w fun e w' => e = .returned (.int .i64 ((a * (b ^ (kQ - 1) % 2305843009213688669) % 2305843009213688669 : Nat) : Int)) ∧ Below w.heap.size w w' := by
  have k := fun w => fInv b h0 hb w
  have hr : b ^ (kQ - 1) % 2305843009213688669 < 2305843009213688669 := Nat.mod_lt _ (by decide)
  generalize b ^ (kQ - 1) % 2305843009213688669 = r at *
  have k2 := fun w => times_any a r ha hr w
  generalize a * r % 2305843009213688669 = s at *
  go_enter Tryz.func58, Tryz.ntmps58
  go_wp2_with (first
    | (go_at_call 72; with_reducible refine (k _).mono ?_; rintro e w1 ⟨rfl, hb1⟩)
    | (go_at_call 40; with_reducible refine (k2 _).mono ?_; rintro e w2 ⟨rfl, hb2⟩))
  go_ret
  exact ⟨rfl, hb1.trans (hb2.mono hb1.size)⟩

theorem okS_short {l : List Sh} (h : l.length < 1) : okS l = false := by
  unfold okS; rw [decide_eq_false (by omega)]; rfl
theorem okS_long {l : List Sh} (h : 64 < l.length) : okS l = false := by
  unfold okS; rw [decide_eq_false (p := l.length ≤ 64) (by omega)]; simp
theorem okS_mid {l : List Sh} (h : 1 ≤ l.length) (h2 : l.length ≤ 64) : okS l = chkL 0 l := by
  unfold okS; rw [decide_eq_true h, decide_eq_true h2]; simp
theorem okS_out {l : List Sh} (h : okS l = true) : 1 ≤ l.length ∧ l.length ≤ 64 ∧ chkL 0 l = true := by
  unfold okS at h
  simp only [Bool.and_eq_true, decide_eq_true_eq] at h
  exact ⟨h.1.1, h.1.2, h.2⟩
theorem okS_mk {l : List Sh} (h1 : 1 ≤ l.length) (h2 : l.length ≤ 64) (h3 : chkL 0 l = true) : okS l = true := by rw [okS_mid h1 h2, h3]

set_option maxRecDepth 100000 in
set_option maxHeartbeats 2000000 in
theorem sCheck_any (a : Option Addr) (cap : Nat) (l : List Sh) (w : World) (hl : RdS w.heap.size w a l) :
    Calls Tryz.prog 12 #[.slice a l.length cap] w fun e w' => e = .returned (.int .i64 (if okS l then 0 else 80)) ∧ Below w.heap.size w w' := by
  have HR := Lib.hid hl
  have hm := hl.1
  unfold maxLen at hm
  clear hl
  have HB0 := Lib.hid (Below.refl w.heap.size w)
  by_cases h1 : l.length < 1
  · rw [okS_short h1]
    have f1 : decide ((l.length : Int) < 1) = true := decide_eq_true (by omega)
    generalize l.length = n at *
    go_enter Tryz.func12, Tryz.ntmps12
    go_wp2_with fail
    go_ret
    exact ⟨rfl, HB0.out⟩
  have f1 : decide ((l.length : Int) < 1) = false := decide_eq_false (by omega)
  by_cases h2 : 64 < l.length
  · rw [okS_long h2]
    have f2 : decide (64 < (l.length : Int)) = true := decide_eq_true (by omega)
    generalize l.length = n at *
    go_enter Tryz.func12, Tryz.ntmps12
    go_wp2_with fail
    go_ret
    exact ⟨rfl, HB0.out⟩
  have f2 : decide (64 < (l.length : Int)) = false := decide_eq_false (by omega)
  rw [okS_mid (by omega) (by omega)]
  obtain ⟨b, o, rfl, hbB, hc⟩ := HR.out.at_ (by omega)
  have HC := Lib.hid hc
  obtain ⟨C, hC⟩ : ∃ C, chkL 0 l = C := ⟨_, rfl⟩
  rw [hC]
  have HCC : Hid (chkL 0 (l.drop 0) = C) := Lib.hid hC
  obtain ⟨R, hR⟩ : ∃ R : Int, (if C = true then (0 : Int) else 80) = R := ⟨_, rfl⟩
  rw [hR]
  have HRR := Lib.hid hR
  clear hR
  obtain ⟨n, hn⟩ : ∃ n, l.length = n := ⟨_, rfl⟩
  have HN := Lib.hid hn
  rw [hn] at hm f1 f2 h1 h2 ⊢
  clear hc hC hn HR
  go_enter Tryz.func12, Tryz.ntmps12
  go_wp2_with fail
  go_loopw [3, 16] (fun p i wr => ∃ (k : Nat) (q : Int), k ≤ n ∧ i = .int .i64 k ∧ p = .int .i64 q ∧ chkL q (l.drop k) = C ∧ Below w.heap.size w wr) (fun _ i _ => n - (intOf i).toNat)
  case atStart => exact ⟨0, 0, by omega, rfl, rfl, HCC.out, HB0.out⟩
  case round =>
    clear HCC HB0
    obtain ⟨k, q, hk, rfl, rfl, hq, hb⟩ := hrel
    have HB := Lib.hid hb
    by_cases hlt : k < n
    · have hkl : k < l.length := by rw [HN.out]; exact hlt
      obtain ⟨c0, c1⟩ := HC.out k hkl
      have d0 := (hb.cell (p := ⟨b, o + k * 2, none⟩) hbB).trans c0
      have d1 := (hb.cell (p := ⟨b, o + k * 2 + 1, none⟩) hbB).trans c1
      rw [List.drop_eq_getElem_cons hkl, chkL_cons] at hq
      have HQ := Lib.hid hq
      generalize l[k] = s at *
      obtain ⟨s0, s1⟩ := s
      clear c0 c1 hq hb
      have HB1 : Hid (Below w.heap.size w (wr.alloc (.cells #[.int .i64 s0, .int .i64 s1] 40))) := Lib.hid (HB.out.alloc HB.out.size _)
      by_cases g1 : s0 ≤ q
      · have e1 : decide (s0 ≤ q) = true := decide_eq_true g1
        have HF : Hid (80 = R) := Lib.hid (by rw [← HRR.out, ← HQ.out, decide_eq_false (by show ¬ q < s0; omega)]; rfl)
        go_wp2_with fail
        go_ret
        exact ⟨by rw [← HF.out]; rfl, HB1.out⟩
      have e1 : decide (s0 ≤ q) = false := decide_eq_false g1
      by_cases g2 : 64 < s0
      · have e2 : decide (64 < s0) = true := decide_eq_true g2
        have HF : Hid (80 = R) := Lib.hid (by rw [← HRR.out, ← HQ.out, decide_eq_false (p := s0 ≤ 64) (by omega), Bool.and_false]; rfl)
        go_wp2_with fail
        go_ret
        exact ⟨by rw [← HF.out]; rfl, HB1.out⟩
      have e2 : decide (64 < s0) = false := decide_eq_false g2
      have K := Lib.hid (fun w => fCheck s1 w)
      have HQ2 : Hid ((scal s1 && chkL s0 (l.drop (k + 1))) = C) := Lib.hid (by rw [← HQ.out, decide_eq_true (p := q < s0) (by omega), decide_eq_true (p := s0 ≤ 64) (by omega)]; rfl)
      have HSH : Hid (SH (wr.alloc (.cells #[.int .i64 s0, .int .i64 s1] 40)) wr.heap.size (s0, s1)) := Lib.hid (SH.new wr (s0, s1))
      clear HQ
      cases hsc : scal s1
      · rw [hsc] at K HQ2
        go_wp2_with (go_at_call 18; with_reducible refine (K.out _).mono ?_; rintro e w2 ⟨rfl, hb2⟩; have HB2 := Lib.hid (HB1.out.trans (hb2.mono HB1.out.size)); clear hb2 HB1)
        go_ret
        exact ⟨by rw [← HRR.out, ← HQ2.out]; rfl, HB2.out⟩
      · rw [hsc] at K HQ2
        go_wp2_with (go_at_call 18; with_reducible refine (K.out _).mono ?_; rintro e w2 ⟨rfl, hb2⟩; have HB2 := Lib.hid (HB1.out.trans (hb2.mono HB1.out.size)); have e0 := (HSH.out.call hb2).cell0; clear hb2 HB1)
        go_roundw
        case rel => exact ⟨k + 1, s0, by omega, by go_num, rfl, by rw [← HQ2.out]; rfl, HB2.out⟩
        case measure => simp [intOf]; omega
    · obtain rfl : k = n := by omega
      have HF : Hid (0 = R) := Lib.hid (by rw [← HRR.out, ← hq, ← HN.out, List.drop_length]; rfl)
      clear hq
      go_wp2_with fail
      go_ret
      exact ⟨by rw [← HF.out]; rfl, HB.out⟩
end Go.Proofs.YtecojpkefobgpaaGreatDoor
