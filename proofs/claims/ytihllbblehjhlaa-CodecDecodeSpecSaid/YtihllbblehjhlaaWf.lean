/-
  Contracts of wellFormed and Formed.
-/
import Derived.Test.YtihllbblehjhlaaV
namespace Go.Proofs.Ytihllbblehjhlaa
open Go.RowKit

set_option maxHeartbeats 400000 in
theorem wf_any (m : Nat) : ∀ (B : Nat) (k n : Int) (s : ByteArray) (a : Option Addr) (cap : Nat) (kids : VL) (w : World), kids.sz ≤ m → I64 k → I64 n → s.size ≤ maxLen → RepS B w a cap kids → B ≤ w.heap.size →
    Calls Try.prog 25 #[.agg #[.int .i64 k, .int .i64 n, .string s, .slice a kids.len cap]] w fun e w' => e = .returned (.bool (vwf k n s kids)) ∧ Below w.heap.size w w' := by
  induction m with
  | zero => intro B k n s a cap kids w hm; have := kids.sz_pos; omega
  | succ m ih =>
  intro B k n s a cap kids w hm hk hn hs hr hB
  obtain ⟨hn0, hn1⟩ := hn
  by_cases h1 : k = 1
  · subst h1
    go_enter Try.func25, Try.ntmps25
    go_wp2
    all_goals
      go_ret
      refine ⟨?_, (Below.refl _ _).alloc (Nat.le_refl _) _⟩
      simp [vwf, VL.isNil_len, *]
  by_cases h2 : k = 2
  · subst h2
    go_enter Try.func25, Try.ntmps25
    go_wp2
    all_goals
      go_ret
      refine ⟨?_, (Below.refl _ _).alloc (Nat.le_refl _) _⟩
      simp [vwf, VL.isNil_len, *]
  by_cases h3 : k = 3
  · subst h3
    have hl := hr.1
    obtain ⟨b, o, hf, HA⟩ := hr.at
    have HR := Lib.hid hr
    clear hr
    unfold maxLen at hl
    go_enter Try.func25, Try.ntmps25
    go_wp2
    go_loopw [34] (fun i wr => ∃ (j : Nat) (r : VL), i = .int .i64 j ∧ j + r.len = kids.len ∧ r.sz ≤ m + 1 ∧ RepL B wr b (o + j * 4) r ∧ kids.wf = r.wf ∧ Below (w.heap.size + 1) (w.alloc (.cells #[.int .i64 3, .int .i64 n, .string s, .slice a kids.len cap] 24)) wr) (fun i _ => kids.len - (intOf i).toNat)
    case atStart => exact ⟨0, kids, rfl, by omega, hm, by simpa using hf.below ((Below.refl _ _).alloc hB _) _ _ _, rfl, Below.refl _ _⟩
    case round =>
      obtain ⟨j, r, rfl, hj, hm', hr, hw, hb⟩ := hrel
      have HW := Lib.hid hw; clear hw
      cases r with
      | nil =>
        have : j = kids.len := by simpa [VL.len] using hj
        have c1 : wr.cell? ⟨w.heap.size, 1, none⟩ = some (.int .i64 n) := by rw [hb.cell (by simp)]; simp
        have c2 : wr.cell? ⟨w.heap.size, 2, none⟩ = some (.string s) := by rw [hb.cell (by simp)]; simp
        go_wp2
        all_goals
          go_ret
          refine ⟨?_, below_start hb⟩
          have := HW.out
          simp [vwf, VL.wf, this, *]
      | cons k' n' s' kids' r' =>
        simp only [VL.len] at hj
        have hlt : j < kids.len := by omega
        have ha : a = some ⟨b, o, none⟩ := by
          rcases HA.out with h | h
          · rw [h] at hlt; simp [VL.len] at hlt
          · exact h
        subst ha
        obtain ⟨q0, q1, q2, q3, q4, q5, q6, ⟨a', cap', q7, q8⟩, q9⟩ := hr
        simp only [VL.sz] at hm'
        have := kids'.sz_pos
        have := r'.sz_pos
        have hBw : w.heap.size + 1 ≤ wr.heap.size := by simpa using hb.size
        have hBr : B ≤ wr.heap.size := by omega
        have HS : RepS B wr a' cap' kids' := q8
        have HM : Hid (RepL B wr b (o + j * 4 + 4) r') := q9
        clear q8 q9
        go_wp2_with (go_at_call 25; refine (ih B k' n' s' a' cap' kids' _ (by omega) q1 q2 q3 (HS.below ((Below.refl _ _).alloc hBr _)) (by simp; omega)).mono ?_; rintro e w1 ⟨rfl, hb1⟩)
        · have HV := Lib.hid ‹(!vwf k' n' s' kids') = true›
          go_ret
          refine ⟨?_, below_start (below_alloc_call hb hBw hb1)⟩
          have h1 := HW.out
          have h2 := HV.out
          simp only [Bool.not_eq_true'] at h2
          rw [vwf3, h1, VL.wf_cons, h2]; rfl
        · have HV := Lib.hid ‹(!vwf k' n' s' kids') = false›
          have h5 : Below B wr w1 := ((Below.refl _ _).alloc hBr _).trans (hb1.mono (by simp; omega))
          go_roundw
          case rel =>
            refine ⟨j + 1, r', by go_num, by omega, by omega, ?_, ?_, ?_⟩
            · have := HM.out.below h5
              rw [show o + (j + 1) * 4 = o + j * 4 + 4 from by omega]; exact this
            · have h1 := HW.out
              have h2 := HV.out
              simp only [Bool.not_eq_false'] at h2
              simp [VL.wf_cons, h1, h2]
            · exact below_alloc_call hb hBw hb1
          case measure => simp [intOf]; omega
  have HK : Hid (vwf k n s kids = false) := by show vwf k n s kids = false; simp [vwf, h1, h2, h3]
  go_enter Try.func25, Try.ntmps25
  go_wp2
  go_ret
  exact ⟨by rw [HK.out]; rfl, (Below.refl _ _).alloc (Nat.le_refl _) _⟩
set_option maxHeartbeats 400000 in
theorem formed_any (m : Nat) : ∀ (B : Nat) (k n : Int) (s : ByteArray) (a : Option Addr) (cap : Nat) (kids : VL) (w : World), kids.sz ≤ m → I64 k → I64 n → s.size ≤ maxLen → RepS B w a cap kids → B ≤ w.heap.size →
    Calls Try.prog 27 #[.agg #[.int .i64 k, .int .i64 n, .string s, .slice a kids.len cap]] w fun e w' => e = .returned (.bool (vwf k n s kids)) ∧ Below w.heap.size w w' := by
  induction m with
  | zero => intro B k n s a cap kids w hm; have := kids.sz_pos; omega
  | succ m ih =>
  intro B k n s a cap kids w hm hk hn hs hr hB
  obtain ⟨hn0, hn1⟩ := hn
  by_cases h1 : k = 1
  · subst h1
    go_enter Try.func27, Try.ntmps27
    go_wp2
    all_goals
      go_ret
      refine ⟨?_, (Below.refl _ _).alloc (Nat.le_refl _) _⟩
      simp [vwf, VL.isNil_len, *]
  by_cases h2 : k = 2
  · subst h2
    go_enter Try.func27, Try.ntmps27
    go_wp2
    all_goals
      go_ret
      refine ⟨?_, (Below.refl _ _).alloc (Nat.le_refl _) _⟩
      simp [vwf, VL.isNil_len, *]
  by_cases h3 : k = 3
  · subst h3
    have hl := hr.1
    obtain ⟨b, o, hf, HA⟩ := hr.at
    have HR := Lib.hid hr
    clear hr
    unfold maxLen at hl
    go_enter Try.func27, Try.ntmps27
    go_wp2
    go_loopw [3] (fun i wr => ∃ (j : Nat) (r : VL), i = .int .i64 j ∧ j + r.len = kids.len ∧ r.sz ≤ m + 1 ∧ RepL B wr b (o + j * 4) r ∧ kids.wf = r.wf ∧ Below (w.heap.size + 1) (w.alloc (.cells #[.int .i64 3, .int .i64 n, .string s, .slice a kids.len cap] 24)) wr) (fun i _ => kids.len - (intOf i).toNat)
    case atStart => exact ⟨0, kids, rfl, by omega, hm, by simpa using hf.below ((Below.refl _ _).alloc hB _) _ _ _, rfl, Below.refl _ _⟩
    case round =>
      obtain ⟨j, r, rfl, hj, hm', hr, hw, hb⟩ := hrel
      have HW := Lib.hid hw; clear hw
      cases r with
      | nil =>
        have : j = kids.len := by simpa [VL.len] using hj
        have c3 : wr.cell? ⟨w.heap.size, 3, none⟩ = some (.slice a kids.len cap) := by rw [hb.cell (by simp)]; simp
        have c1 : wr.cell? ⟨w.heap.size, 1, none⟩ = some (.int .i64 n) := by rw [hb.cell (by simp)]; simp
        have c2 : wr.cell? ⟨w.heap.size, 2, none⟩ = some (.string s) := by rw [hb.cell (by simp)]; simp
        go_wp2
        all_goals
          go_ret
          refine ⟨?_, below_start hb⟩
          have := HW.out
          simp [vwf, VL.wf, this, *]
      | cons k' n' s' kids' r' =>
        simp only [VL.len] at hj
        have hlt : j < kids.len := by omega
        have ha : a = some ⟨b, o, none⟩ := by
          rcases HA.out with h | h
          · rw [h] at hlt; simp [VL.len] at hlt
          · exact h
        subst ha
        obtain ⟨q0, q1, q2, q3, q4, q5, q6, ⟨a', cap', q7, q8⟩, q9⟩ := hr
        simp only [VL.sz] at hm'
        have := kids'.sz_pos
        have := r'.sz_pos
        have hBw : w.heap.size + 1 ≤ wr.heap.size := by simpa using hb.size
        have hBr : B ≤ wr.heap.size := by omega
        have HS : RepS B wr a' cap' kids' := q8
        have HM : Hid (RepL B wr b (o + j * 4 + 4) r') := q9
        clear q8 q9
        have c3 : wr.cell? ⟨w.heap.size, 3, none⟩ = some (.slice (some ⟨b, o, none⟩) kids.len cap) := by rw [hb.cell (by simp)]; simp
        go_wp2_with (go_at_call 27; refine (ih B k' n' s' a' cap' kids' _ (by omega) q1 q2 q3 HS hBr).mono ?_; rintro e w1 ⟨rfl, hb1⟩)
        · have HV := Lib.hid ‹(!vwf k' n' s' kids') = true›
          go_ret
          refine ⟨?_, below_start (below_call hb hBw hb1)⟩
          have h1 := HW.out
          have h2 := HV.out
          simp only [Bool.not_eq_true'] at h2
          rw [vwf3, h1, VL.wf_cons, h2]; rfl
        · have HV := Lib.hid ‹(!vwf k' n' s' kids') = false›
          have h5 : Below B wr w1 := hb1.mono hBr
          go_roundw
          case rel =>
            refine ⟨j + 1, r', by go_num, by omega, by omega, ?_, ?_, ?_⟩
            · have := HM.out.below h5
              rw [show o + (j + 1) * 4 = o + j * 4 + 4 from by omega]; exact this
            · have h1 := HW.out
              have h2 := HV.out
              simp only [Bool.not_eq_false'] at h2
              simp [VL.wf_cons, h1, h2]
            · exact below_call hb hBw hb1
          case measure => simp [intOf]; omega
  have HK : Hid (vwf k n s kids = false) := by show vwf k n s kids = false; simp [vwf, h1, h2, h3]
  go_enter Try.func27, Try.ntmps27
  go_wp2
  go_ret
  exact ⟨by rw [HK.out]; rfl, (Below.refl _ _).alloc (Nat.le_refl _) _⟩
end Go.Proofs.Ytihllbblehjhlaa
