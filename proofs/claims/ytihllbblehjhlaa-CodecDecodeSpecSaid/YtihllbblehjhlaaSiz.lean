/-
  Contract of size.
-/
import Derived.Test.YtihllbblehjhlaaNum
import Derived.Deep.QuietTactic
import Derived.BigQuiet
namespace Go.Proofs.Ytihllbblehjhlaa
open Go.RowKit

def VL.size : VL → Nat
  | .nil => 0
  | .cons k n s kids r => (if k = 1 then 1 + ndig (zig n) else if k = 2 then 1 + ndig s.size + s.size else 1 + ndig kids.len + kids.size) + r.size
/-- Of one value. -/
def vsize (k n : Int) (s : ByteArray) (kids : VL) : Nat := if k = 1 then 1 + ndig (zig n) else if k = 2 then 1 + ndig s.size + s.size else 1 + ndig kids.len + kids.size
theorem VL.size_cons (k n : Int) (s : ByteArray) (kids r : VL) : (VL.cons k n s kids r).size = vsize k n s kids + r.size := rfl
theorem ndigF_le : ∀ (f u : Nat), ndigF f u ≤ f + 1
  | 0, u => by simp [ndigF]
  | f + 1, u => by simp only [ndigF]; have := ndigF_le f (u / 128); split <;> omega
theorem ndig_le (u : Nat) : ndig u ≤ 10 := ndigF_le 9 u
theorem zig_le {n : Int} (h : I64 n) : zig n ≤ 18446744073709551615 := by
  obtain ⟨h0, h1⟩ := h
  by_cases h2 : 0 ≤ n
  · have := zig_nonneg h2; omega
  · have := zig_neg h2; omega

set_option maxHeartbeats 400000 in
theorem size_any (m : Nat) : ∀ (B : Nat) (k n : Int) (s : ByteArray) (a : Option Addr) (cap : Nat) (kids : VL) (w : World), kids.sz ≤ m → vsize k n s kids ≤ 1000000000000 → I64 k → I64 n → s.size ≤ maxLen → RepS B w a cap kids → B ≤ w.heap.size →
    Calls Try.prog 24 #[.agg #[.int .i64 k, .int .i64 n, .string s, .slice a kids.len cap]] w fun e w' => e = .returned (.int .i64 (vsize k n s kids : Nat)) ∧ Below w.heap.size w w' := by
  induction m with
  | zero => intro B k n s a cap kids w hm; have := kids.sz_pos; omega
  | succ m ih =>
  intro B k n s a cap kids w hm hv hk hn hs hr hB
  have hzl := zig_le hn
  have hI := Lib.hid hn
  obtain ⟨hn0, hn1⟩ := hn
  by_cases h1 : k = 1
  · subst h1
    have HK : Hid (vsize 1 n s kids = 1 + ndig (zig n)) := rfl
    have hd := ndig_le (zig n)
    clear hv
    go_enter Try.func24, Try.ntmps24
    go_wp2_with (first | (go_at_call 38; refine (codecUnsigned n hI.out _).mono ?_; rintro e w' ⟨rfl, rfl⟩) | (go_at_call 37; refine (numeralSize_any _ hzl _).mono ?_; rintro e w' ⟨rfl, rfl⟩))
    go_ret
    exact ⟨by rw [HK.out]; simp, (Below.refl _ _).alloc (Nat.le_refl _) _⟩
  by_cases h2 : k = 2
  · subst h2
    have HK : Hid (vsize 2 n s kids = 1 + ndig s.size + s.size) := rfl
    have hd := ndig_le s.size
    have hs2 : s.size ≤ 1000000000000 := by have := HK.out; omega
    clear hv
    go_enter Try.func24, Try.ntmps24
    go_wp2_with fail
    go_quiet ((go_at_call 37; exact Calls.quiet_of_same ((numeralSize_any _ (by omega) _).mono fun _ _ h => ⟨h.1, h.2.symm⟩)))
    go_wp2
    go_ret
    exact ⟨by rw [HK.out]; simp, by first | exact below_drewN _ ((Below.refl _ _).alloc (Nat.le_refl _) _) | exact below_drewN ((Below.refl _ _).alloc (Nat.le_refl _) _) _⟩
  have HK : Hid (vsize k n s kids = 1 + ndig kids.len + kids.size) := by show vsize k n s kids = _; simp [vsize, h1, h2]
  have hd := ndig_le kids.len
  have hl := hr.1
  obtain ⟨b, o, hf, HA⟩ := hr.at
  have HR := Lib.hid hr
  clear hr
  unfold maxLen at hl
  have hsz : 1 + ndig kids.len + kids.size ≤ 1000000000000 := by have := HK.out; omega
  clear hv
  have g1 : (k == 1) = false := by simpa using h1
  have g2 : (k == 2) = false := by simpa using h2
  go_enter Try.func24, Try.ntmps24
  go_wp2_with (go_at_call 37; refine (numeralSize_any kids.len (by omega) _).mono ?_; rintro e w' ⟨rfl, rfl⟩)
  go_loopw [36, 3] (fun i d wr => ∃ (j p : Nat) (r : VL), i = .int .i64 j ∧ d = .int .i64 p ∧ j + r.len = kids.len ∧ r.sz ≤ m + 1 ∧ RepL B wr b (o + j * 4) r ∧ p + r.size = 1 + ndig kids.len + kids.size ∧ Below (w.heap.size + 1) (w.alloc (.cells #[.int .i64 k, .int .i64 n, .string s, .slice a kids.len cap] 24)) wr) (fun i _ _ => kids.len - (intOf i).toNat)
  case atStart => exact ⟨0, 1 + ndig kids.len, kids, rfl, by go_num, by omega, hm, by simpa using hf.below ((Below.refl _ _).alloc hB _) _ _ _, by omega, Below.refl _ _⟩
  case round =>
    obtain ⟨j, p, r, rfl, rfl, hj, hm', hr, hw, hb⟩ := hrel
    have hp : p ≤ 1000000000000 := by omega
    cases r with
    | nil =>
      have : j = kids.len := by simpa [VL.len] using hj
      have HW := Lib.hid hw; clear hw
      go_wp2
      go_ret
      refine ⟨?_, below_start hb⟩
      have h1 := HW.out
      simp only [VL.size, Nat.add_zero] at h1
      rw [HK.out, h1]; rfl
    | cons k' n' s' kids' r' =>
      rw [VL.size_cons] at hw
      have hp2 : p + vsize k' n' s' kids' ≤ 1000000000000 := by omega
      have HW := Lib.hid hw; clear hw
      simp only [VL.len] at hj
      have hlt : j < kids.len := by omega
      have ha : a = some ⟨b, o, none⟩ := by
        rcases HA.out with h | h
        · rw [h] at hlt; simp [VL.len] at hlt
        · exact h
      subst ha
      obtain ⟨q0, q1, q2, q3, q4, q5, q6, ⟨a', cap', q7, q8⟩, q9⟩ := hr
      simp only [VL.sz] at hm'
      have := kids'.sz_pos
      have := r'.sz_pos
      have hBw : w.heap.size + 1 ≤ wr.heap.size := by simpa using hb.size
      have hBr : B ≤ wr.heap.size := by omega
      have HS : RepS B wr a' cap' kids' := q8
      have HM : Hid (RepL B wr b (o + j * 4 + 4) r') := q9
      clear q8 q9
      go_wp2_with (go_at_call 24; refine (ih B k' n' s' a' cap' kids' _ (by omega) (by omega) q1 q2 q3 (HS.below ((Below.refl _ _).alloc hBr _)) (by simp; omega)).mono ?_; rintro e w1 ⟨rfl, hb1⟩)
      all_goals
        have h5 : Below B wr w1 := ((Below.refl _ _).alloc hBr _).trans (hb1.mono (by simp; omega))
        go_roundw
        case rel =>
          refine ⟨j + 1, p + vsize k' n' s' kids', r', by go_num, by go_num, by omega, by omega, ?_, ?_, below_alloc_call hb hBw hb1⟩
          · have := HM.out.below h5
            rw [show o + (j + 1) * 4 = o + j * 4 + 4 from by omega]; exact this
          · have h1 := HW.out
            omega
        case measure => simp [intOf]; omega
end Go.Proofs.Ytihllbblehjhlaa
