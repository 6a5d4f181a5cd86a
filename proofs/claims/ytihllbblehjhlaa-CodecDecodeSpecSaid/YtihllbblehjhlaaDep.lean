/-
  Contracts of depth and Depth.
-/
import Derived.Test.YtihllbblehjhlaaV
namespace Go.Proofs.Ytihllbblehjhlaa
open Go.RowKit

/-- Of one value. -/
def vdepth (k : Int) (kids : VL) : Nat := if k = 3 then 1 + kids.depth else 0
theorem VL.depth_cons (k n : Int) (s : ByteArray) (kids r : VL) : (VL.cons k n s kids r).depth = max (vdepth k kids) r.depth := rfl
theorem VL.depth_le (f : VL) : f.depth ≤ f.sz := by
  induction f with
  | nil => simp [VL.depth]
  | cons k n s kids r h1 h2 => rw [VL.depth_cons]; simp only [vdepth, VL.sz]; split <;> omega

set_option maxHeartbeats 400000 in
theorem depth_any (m : Nat) : ∀ (B : Nat) (k n : Int) (s : ByteArray) (a : Option Addr) (cap : Nat) (kids : VL) (w : World), kids.sz ≤ m → m ≤ 1000000000000 → I64 k → I64 n → s.size ≤ maxLen → RepS B w a cap kids → B ≤ w.heap.size →
    Calls Try.prog 26 #[.agg #[.int .i64 k, .int .i64 n, .string s, .slice a kids.len cap]] w fun e w' => e = .returned (.int .i64 (vdepth k kids : Nat)) ∧ Below w.heap.size w w' := by
  induction m with
  | zero => intro B k n s a cap kids w hm; have := kids.sz_pos; omega
  | succ m ih =>
  intro B k n s a cap kids w hm hmm hk hn hs hr hB
  obtain ⟨hn0, hn1⟩ := hn
  by_cases h3 : k = 3
  · subst h3
    have hl := hr.1
    obtain ⟨b, o, hf, HA⟩ := hr.at
    have HR := Lib.hid hr
    clear hr
    unfold maxLen at hl
    have hd := kids.depth_le
    go_enter Try.func26, Try.ntmps26
    go_wp2
    go_loopw [12, 3] (fun i d wr => ∃ (j p : Nat) (r : VL), i = .int .i64 j ∧ d = .int .i64 p ∧ j + r.len = kids.len ∧ r.sz ≤ m + 1 ∧ RepL B wr b (o + j * 4) r ∧ max p r.depth = kids.depth ∧ Below (w.heap.size + 1) (w.alloc (.cells #[.int .i64 3, .int .i64 n, .string s, .slice a kids.len cap] 24)) wr) (fun i _ _ => kids.len - (intOf i).toNat)
    case atStart => exact ⟨0, 0, kids, rfl, rfl, by omega, hm, by simpa using hf.below ((Below.refl _ _).alloc hB _) _ _ _, by omega, Below.refl _ _⟩
    case round =>
      obtain ⟨j, p, r, rfl, rfl, hj, hm', hr, hw, hb⟩ := hrel
      have hp : p ≤ 1000000000000 := by omega
      have HW := Lib.hid hw; clear hw
      have c3 : wr.cell? ⟨w.heap.size, 3, none⟩ = some (.slice a kids.len cap) := by rw [hb.cell (by simp)]; simp
      cases r with
      | nil =>
        have : j = kids.len := by simpa [VL.len] using hj
        go_wp2
        all_goals
          go_ret
          refine ⟨?_, below_start hb⟩
          have h1 := HW.out
          simp only [VL.depth, Nat.max_zero] at h1
          simp [vdepth, h1]; try omega
      | cons k' n' s' kids' r' =>
        simp only [VL.len] at hj
        have hlt : j < kids.len := by omega
        have ha : a = some ⟨b, o, none⟩ := by
          rcases HA.out with h | h
          · rw [h] at hlt; simp [VL.len] at hlt
          · exact h
        subst ha
        obtain ⟨q0, q1, q2, q3, q4, q5, q6, ⟨a', cap', q7, q8⟩, q9⟩ := hr
        simp only [VL.sz] at hm'
        have := kids'.sz_pos
        have := r'.sz_pos
        have hBw : w.heap.size + 1 ≤ wr.heap.size := by simpa using hb.size
        have hBr : B ≤ wr.heap.size := by omega
        have HS : RepS B wr a' cap' kids' := q8
        have HM : Hid (RepL B wr b (o + j * 4 + 4) r') := q9
        clear q8 q9
        go_wp2_with (go_at_call 26; refine (ih B k' n' s' a' cap' kids' _ (by omega) (by omega) q1 q2 q3 (HS.below ((Below.refl _ _).alloc hBr _)) (by simp; omega)).mono ?_; rintro e w1 ⟨rfl, hb1⟩)
        all_goals
          have h5 : Below B wr w1 := ((Below.refl _ _).alloc hBr _).trans (hb1.mono (by simp; omega))
          go_roundw
          case rel =>
            refine ⟨j + 1, max p (vdepth k' kids'), r', by go_num, int_max_nat _ _ _, by omega, by omega, ?_, ?_, below_alloc_call hb hBw hb1⟩
            · have := HM.out.below h5
              rw [show o + (j + 1) * 4 = o + j * 4 + 4 from by omega]; exact this
            · have h1 := HW.out
              rw [VL.depth_cons] at h1
              omega
          case measure => simp [intOf]; omega
  have HK : Hid (vdepth k kids = 0) := by show vdepth k kids = 0; simp [vdepth, h3]
  go_enter Try.func26, Try.ntmps26
  go_wp2
  go_ret
  exact ⟨by rw [HK.out]; rfl, (Below.refl _ _).alloc (Nat.le_refl _) _⟩

set_option maxHeartbeats 400000 in
theorem refDepth_any (m : Nat) : ∀ (B : Nat) (k n : Int) (s : ByteArray) (a : Option Addr) (cap : Nat) (kids : VL) (w : World), kids.sz ≤ m → m ≤ 1000000000000 → I64 k → I64 n → s.size ≤ maxLen → RepS B w a cap kids → B ≤ w.heap.size →
    Calls Try.prog 28 #[.agg #[.int .i64 k, .int .i64 n, .string s, .slice a kids.len cap]] w fun e w' => e = .returned (.int .i64 (vdepth k kids : Nat)) ∧ Below w.heap.size w w' := by
  induction m with
  | zero => intro B k n s a cap kids w hm; have := kids.sz_pos; omega
  | succ m ih =>
  intro B k n s a cap kids w hm hmm hk hn hs hr hB
  obtain ⟨hn0, hn1⟩ := hn
  by_cases h3 : k = 3
  · subst h3
    have hl := hr.1
    obtain ⟨b, o, hf, HA⟩ := hr.at
    have HR := Lib.hid hr
    clear hr
    unfold maxLen at hl
    have hd := kids.depth_le
    go_enter Try.func28, Try.ntmps28
    go_wp2
    go_loopw [4, 3] (fun i d wr => ∃ (j p : Nat) (r : VL), i = .int .i64 j ∧ d = .int .i64 p ∧ j + r.len = kids.len ∧ r.sz ≤ m + 1 ∧ RepL B wr b (o + j * 4) r ∧ max p r.depth = kids.depth ∧ Below (w.heap.size + 1) (w.alloc (.cells #[.int .i64 3, .int .i64 n, .string s, .slice a kids.len cap] 24)) wr) (fun i _ _ => kids.len - (intOf i).toNat)
    case atStart => exact ⟨0, 0, kids, rfl, rfl, by omega, hm, by simpa using hf.below ((Below.refl _ _).alloc hB _) _ _ _, by omega, Below.refl _ _⟩
    case round =>
      obtain ⟨j, p, r, rfl, rfl, hj, hm', hr, hw, hb⟩ := hrel
      have hp : p ≤ 1000000000000 := by omega
      have HW := Lib.hid hw; clear hw
      have c3 : wr.cell? ⟨w.heap.size, 3, none⟩ = some (.slice a kids.len cap) := by rw [hb.cell (by simp)]; simp
      cases r with
      | nil =>
        have : j = kids.len := by simpa [VL.len] using hj
        go_wp2
        all_goals
          go_ret
          refine ⟨?_, below_start hb⟩
          have h1 := HW.out
          simp only [VL.depth, Nat.max_zero] at h1
          simp [vdepth, h1]; try omega
      | cons k' n' s' kids' r' =>
        simp only [VL.len] at hj
        have hlt : j < kids.len := by omega
        have ha : a = some ⟨b, o, none⟩ := by
          rcases HA.out with h | h
          · rw [h] at hlt; simp [VL.len] at hlt
          · exact h
        subst ha
        obtain ⟨q0, q1, q2, q3, q4, q5, q6, ⟨a', cap', q7, q8⟩, q9⟩ := hr
        simp only [VL.sz] at hm'
        have := kids'.sz_pos
        have := r'.sz_pos
        have hBw : w.heap.size + 1 ≤ wr.heap.size := by simpa using hb.size
        have hBr : B ≤ wr.heap.size := by omega
        have HS : RepS B wr a' cap' kids' := q8
        have HM : Hid (RepL B wr b (o + j * 4 + 4) r') := q9
        clear q8 q9
        go_wp2_with (go_at_call 28; refine (ih B k' n' s' a' cap' kids' _ (by omega) (by omega) q1 q2 q3 HS hBr).mono ?_; rintro e w1 ⟨rfl, hb1⟩)
        all_goals
          have h5 : Below B wr w1 := hb1.mono hBr
          go_roundw
          case rel =>
            refine ⟨j + 1, max p (vdepth k' kids'), r', by go_num, int_max_nat _ _ _, by omega, by omega, ?_, ?_, below_call hb hBw hb1⟩
            · have := HM.out.below h5
              rw [show o + (j + 1) * 4 = o + j * 4 + 4 from by omega]; exact this
            · have h1 := HW.out
              rw [VL.depth_cons] at h1
              omega
          case measure => simp [intOf]; omega
  have HK : Hid (vdepth k kids = 0) := by show vdepth k kids = 0; simp [vdepth, h3]
  go_enter Try.func28, Try.ntmps28
  go_wp2
  go_ret
  exact ⟨by rw [HK.out]; rfl, (Below.refl _ _).alloc (Nat.le_refl _) _⟩

end Go.Proofs.Ytihllbblehjhlaa
