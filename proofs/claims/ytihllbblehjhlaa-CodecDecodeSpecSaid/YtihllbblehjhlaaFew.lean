/-
  Contracts of count, Few and few; what it means for a value to be small.
-/
import Derived.Test.YtihllbblehjhlaaTop
namespace Go.Proofs.Ytihllbblehjhlaa
open Go.RowKit

/-- The loop of count over the values that are left: d is 1 more than the depth that their own count gets (0: it is negative). -/
def VL.cnt : VL → Nat → Nat → Nat
  | .nil, _, acc => acc
  | .cons _ _ s kids r, d, acc => if acc ≤ 1000 then r.cnt d (acc + (if d = 0 ∨ 150 < kids.len then 1000 else kids.cnt (d - 1) (1 + s.size / 200))) else acc
/-- Of one value. -/
def vcnt (d : Nat) (s : ByteArray) (kids : VL) : Nat := if d = 0 ∨ 150 < kids.len then 1000 else kids.cnt (d - 1) (1 + s.size / 200)
theorem VL.cnt_cons (k n : Int) (s : ByteArray) (kids r : VL) (d acc : Nat) : (VL.cons k n s kids r).cnt d acc = if acc ≤ 1000 then r.cnt d (acc + vcnt d s kids) else acc := rfl
def VL.few : VL → Bool
  | .nil => true
  | .cons _ _ s kids r => decide (vcnt 21 s kids ≤ 200) && r.few
theorem VL.cnt_big (f : VL) (d acc : Nat) (h : 1000 < acc) : f.cnt d acc = acc := by
  cases f with
  | nil => rfl
  | cons k n s kids r => rw [VL.cnt_cons, if_neg (by omega)]
/-- Every string of the forest is no longer than Go allows. -/
def VL.strs : VL → Prop
  | .nil => True
  | .cons _ _ s kids r => s.size ≤ 9223372036854775807 ∧ kids.strs ∧ r.strs
theorem VL.cnt_le (f : VL) : ∀ (d acc : Nat), f.strs → f.cnt d acc ≤ max acc (46116860184273880 + 2000 * d) := by
  induction f with
  | nil => intro d acc _; simp only [VL.cnt]; omega
  | cons k n s kids r hk hr =>
    intro d acc hs
    obtain ⟨h1, h2, h3⟩ := hs
    rw [VL.cnt_cons]
    split
    · have hv : vcnt d s kids ≤ 46116860184273879 + 2000 * d - 1000 := by
        unfold vcnt
        split
        · omega
        · have := hk (d - 1) (1 + s.size / 200) h2; omega
      have := hr d (acc + vcnt d s kids) h3
      omega
    · omega
/-- What a forest weighs. -/
def VL.wt : VL → Nat
  | .nil => 0
  | .cons _ _ s kids r => s.size + 1 + kids.wt + r.wt
theorem VL.cnt_wt (f : VL) : ∀ (d acc : Nat), f.cnt d acc ≤ 200 → 200 * acc + f.wt ≤ 200 * f.cnt d acc := by
  induction f with
  | nil => intro d acc _; simp only [VL.cnt, VL.wt]; omega
  | cons k n s kids r hk hr =>
    intro d acc h
    rw [VL.cnt_cons] at h ⊢
    split at h
    · rename_i ha
      rw [if_pos ha]
      have h2 := hr d _ h
      unfold vcnt at h h2 ⊢
      split at h
      · rename_i h3
        rw [if_pos h3] at h2 ⊢
        omega
      · rename_i h3
        rw [if_neg h3] at h2 ⊢
        have h4 := hk (d - 1) (1 + s.size / 200) (by omega)
        simp only [VL.wt]
        omega
    · omega
theorem VL.sz_wt (f : VL) : f.sz ≤ 2 * f.wt + 1 := by
  induction f with
  | nil => simp [VL.sz]
  | cons k n s kids r h1 h2 => simp only [VL.sz, VL.wt]; omega
theorem VL.size_wt (f : VL) : f.size ≤ 12 * f.wt := by
  induction f with
  | nil => simp [VL.size]
  | cons k n s kids r h1 h2 =>
    rw [VL.size_cons]
    have a := ndig_le (zig n)
    have b := ndig_le s.size
    have c := ndig_le kids.len
    simp only [vsize, VL.wt]
    split
    · omega
    · split <;> omega
/-- A small value is small. -/
theorem vcnt_small {d : Nat} {k n : Int} {s : ByteArray} {kids : VL} (h : vcnt d s kids ≤ 200) : kids.sz ≤ 100000 ∧ vsize k n s kids ≤ 1000000 ∧ s.size ≤ 40000 ∧ kids.wt ≤ 40000 := by
  have h0 := h
  unfold vcnt at h
  split at h
  · omega
  · have h1 := kids.cnt_wt _ _ h
    have h2 := kids.sz_wt
    have h3 := kids.size_wt
    have a := ndig_le (zig n)
    have b := ndig_le s.size
    have c := ndig_le kids.len
    refine ⟨by omega, ?_, by omega, by omega⟩
    simp only [vsize]
    split
    · omega
    · split <;> omega

theorem RepL.strs {B : Nat} {w : World} : ∀ (f : VL) (b o : Nat), RepL B w b o f → f.strs := by
  intro f
  induction f with
  | nil => intro _ _ _; trivial
  | cons k n s kids r ihk ihr =>
    intro b o h
    obtain ⟨h0, h1, h2, h3, h4, h5, h6, ⟨a, cap, h7, hl, h8⟩, h9⟩ := h
    unfold maxLen at h3
    refine ⟨by omega, ?_, ihr _ _ h9⟩
    rcases h8 with ⟨_, h8⟩ | ⟨b', o', e, h8⟩
    · rw [h8]; trivial
    · exact ihk _ _ h8
theorem RepS.strs {B : Nat} {w : World} {a : Option Addr} {cap : Nat} {f : VL} (h : RepS B w a cap f) : f.strs := by
  rcases h.2 with ⟨_, h8⟩ | ⟨b', o', e, h8⟩
  · rw [h8]; trivial
  · exact h8.strs

set_option maxRecDepth 100000 in
set_option maxHeartbeats 400000 in
theorem count_any (m : Nat) : ∀ (B d : Nat) (x k n : Int) (s : ByteArray) (a : Option Addr) (cap : Nat) (kids : VL) (w : World), kids.sz ≤ m → Hid (x + 1 = d) → -1 ≤ x → x ≤ 1000 → s.size ≤ maxLen → RepS B w a cap kids → B ≤ w.heap.size →
    Calls Try.prog 33 #[.agg #[.int .i64 k, .int .i64 n, .string s, .slice a kids.len cap], .int .i64 x] w fun e w' => e = .returned (.int .i64 (vcnt d s kids : Nat)) ∧ Below w.heap.size w w' := by
  induction m with
  | zero => intro B d x k n s a cap kids w hm; have := kids.sz_pos; omega
  | succ m ih =>
  intro B d x k n s a cap kids w hm HX hx0 hx1 hs hr hB
  have hl := hr.1
  unfold maxLen at hl hs
  have hq : ((s.size : Int)).tdiv 200 = ((s.size / 200 : Nat) : Int) := by
    rw [Int.tdiv_eq_ediv_of_nonneg (by omega)]; omega
  by_cases hneg : x < 0
  · have HK : Hid (vcnt d s kids = 1000) := by show _ = _; unfold vcnt; rw [if_pos (.inl (by have := HX.out; omega))]
    have hdec : decide (x < 0) = true := by simp; omega
    go_enter Try.func33, Try.ntmps33
    go_wp2
    all_goals
      go_ret
      exact ⟨by rw [HK.out]; rfl, (Below.refl _ _).alloc (Nat.le_refl _) _⟩
  by_cases hbig : 150 < kids.len
  · have HK : Hid (vcnt d s kids = 1000) := by show _ = _; unfold vcnt; rw [if_pos (.inr hbig)]
    have hdec : decide (x < 0) = false := by simp; omega
    go_enter Try.func33, Try.ntmps33
    go_wp2
    all_goals
      go_ret
      exact ⟨by rw [HK.out]; rfl, (Below.refl _ _).alloc (Nat.le_refl _) _⟩
  have HK : Hid (vcnt d s kids = kids.cnt (d - 1) (1 + s.size / 200)) := by show _ = _; unfold vcnt; rw [if_neg (by have := HX.out; omega)]
  have hdec : decide (x < 0) = false := by simp; omega
  obtain ⟨b, o, hf, HA⟩ := hr.at
  have hst := Lib.hid hr.strs
  have hd1 : d ≤ 1001 := by have := HX.out; omega
  clear hr
  go_enter Try.func33, Try.ntmps33
  go_wp2
  go_loopw [6, 5] (fun i c wr => ∃ (j p : Nat) (r : VL), i = .int .i64 j ∧ c = .int .i64 p ∧ j + r.len = kids.len ∧ r.sz ≤ m + 1 ∧ p ≤ 200000000000000000 ∧ Hid (r.strs) ∧ RepL B wr b (o + j * 4) r ∧ Hid (r.cnt (d - 1) p = kids.cnt (d - 1) (1 + s.size / 200)) ∧ Below (w.heap.size + 1) (w.alloc (.cells #[.int .i64 k, .int .i64 n, .string s, .slice a kids.len cap] 24)) wr) (fun i _ _ => kids.len - (intOf i).toNat)
  case atStart => exact ⟨0, 1 + s.size / 200, kids, rfl, by first | rfl | go_num, by omega, hm, by omega, hst, by simpa using hf.below ((Below.refl _ _).alloc hB _) _ _ _, Lib.hid rfl, Below.refl _ _⟩
  case round =>
    obtain ⟨j, p, r, rfl, rfl, hj, hm', hp, HS, hr, HW, hb⟩ := hrel
    obtain ⟨c0, c1, c2, c3⟩ := box4 hb
    cases r with
    | nil =>
      have hje : j = kids.len := by simpa [VL.len] using hj
      have hdj : decide ((j : Int) < (kids.len : Int)) = false := by simp; omega
      go_wp2
      all_goals
        go_ret
        refine ⟨?_, below_start hb⟩
        rw [HK.out, ← HW.out]; rfl
    | cons k' n' s' kids' r' =>
      simp only [VL.len] at hj
      have hlt : j < kids.len := by omega
      have hdj : decide ((j : Int) < (kids.len : Int)) = true := by simp; omega
      have ha : a = some ⟨b, o, none⟩ := by
        rcases HA.out with h | h
        · rw [h] at hlt; simp [VL.len] at hlt
        · exact h
      subst ha
      by_cases hp1 : 1000 < p
      · go_wp2
        all_goals
          go_ret
          refine ⟨?_, below_start hb⟩
          rw [HK.out, ← HW.out, VL.cnt_big _ _ _ hp1]; rfl
      · obtain ⟨q0, q1, q2, q3, q4, q5, q6, ⟨a', cap', q7, q8⟩, q9⟩ := hr
        simp only [VL.sz] at hm'
        have := kids'.sz_pos
        have := r'.sz_pos
        have hBw : w.heap.size + 1 ≤ wr.heap.size := by simpa using hb.size
        have hBr : B ≤ wr.heap.size := by omega
        have HS' : RepS B wr a' cap' kids' := q8
        have HM : Hid (RepL B wr b (o + j * 4 + 4) r') := q9
        have HV : Hid (vcnt (d - 1) s' kids' ≤ 100000000000000000) := by
          show _ ≤ _
          obtain ⟨e1, e2, e3⟩ := HS.out
          unfold vcnt; split
          · omega
          · have := kids'.cnt_le (d - 1 - 1) (1 + s'.size / 200) e2; omega
        clear q8 q9
        have hvv : vcnt (d - 1) s' kids' ≤ 100000000000000000 := HV.out
        have HX' : Hid (x - 1 + 1 = (d - 1 : Nat)) := by show _ = _; have := HX.out; omega
        go_wp2_with (go_at_call 33; refine (ih B (d - 1) _ k' n' s' a' cap' kids' _ (by omega) HX'.out (by omega) (by omega) q3 HS' hBr).mono ?_; rintro e w1 ⟨rfl, hb1⟩)
        all_goals
          have h5 : Below B wr w1 := hb1.mono hBr
          go_roundw
          case rel =>
            refine ⟨j + 1, p + vcnt (d - 1) s' kids', r', by go_num, by go_num, by omega, by omega, by omega, Lib.hid HS.out.2.2, ?_, ?_, below_call hb hBw hb1⟩
            · have := HM.out.below h5
              rw [show o + (j + 1) * 4 = o + j * 4 + 4 from by omega]; exact this
            · have h1 := HW.out
              rw [VL.cnt_cons, if_pos (by omega)] at h1
              exact h1
          case measure => simp [intOf]; omega

set_option maxHeartbeats 400000 in
theorem Few_any (B : Nat) (k n : Int) (s : ByteArray) (a : Option Addr) (cap : Nat) (kids : VL) (w : World) (hs : s.size ≤ maxLen) (hr : RepS B w a cap kids) (hB : B ≤ w.heap.size) :
    Calls Try.prog 21 #[.agg #[.int .i64 k, .int .i64 n, .string s, .slice a kids.len cap], .int .i64 20] w fun e w' => e = .returned (.bool (decide (vcnt 21 s kids ≤ 200))) ∧ Below w.heap.size w w' := by
  have hr1 : RepS B (w.alloc (.cells #[.int .i64 k, .int .i64 n, .string s, .slice a kids.len cap] 24)) a cap kids := hr.below ((Below.refl _ _).alloc hB _)
  have hst := hr.strs
  have hv : vcnt 21 s kids ≤ 100000000000000000 := by
    unfold maxLen at hs
    unfold vcnt; split
    · omega
    · have := kids.cnt_le (21 - 1) (1 + s.size / 200) hst; omega
  clear hst
  go_enter Try.func21, Try.ntmps21
  go_wp2_with fail
  refine (count_any kids.sz B 21 20 k n s a cap kids _ (Nat.le_refl _) (by show _ = _; omega) (by omega) (by omega) hs hr1 (le_alloc hB _)).mono ?_
  rintro e w1 ⟨rfl, hb⟩
  generalize hgc : vcnt 21 s kids = c at *
  have HC := Lib.hid hgc
  clear hgc
  go_wp2_with fail
  go_ret
  exact ⟨by rw [HC.out]; simp; omega, below_start (hb.mono (by simp))⟩

set_option maxRecDepth 100000 in
set_option maxHeartbeats 400000 in
theorem few_any (B : Nat) (a : Option Addr) (cap : Nat) (kids : VL) (w : World) (hr : RepS B w a cap kids) (hB : B ≤ w.heap.size) :
    Calls Try.prog 7 #[.slice a kids.len cap] w fun e w' => e = .returned (.bool kids.few) ∧ Below w.heap.size w w' := by
  have hl := hr.1
  obtain ⟨b, o, hf, HA⟩ := hr.at
  clear hr
  unfold maxLen at hl
  go_enter Try.func7, Try.ntmps7
  go_wp2
  go_loopw [7] (fun i wr => ∃ (j : Nat) (r : VL), i = .int .i64 j ∧ j + r.len = kids.len ∧ RepL B wr b (o + j * 4) r ∧ Hid (kids.few = r.few) ∧ Below w.heap.size w wr) (fun i _ => kids.len - (intOf i).toNat)
  case atStart => exact ⟨0, kids, rfl, by omega, by simpa using hf, Lib.hid rfl, Below.refl _ _⟩
  case round =>
    obtain ⟨j, r, rfl, hj, hr, HW, hb⟩ := hrel
    cases r with
    | nil =>
      have : j = kids.len := by simpa [VL.len] using hj
      go_wp2
      go_ret
      exact ⟨by rw [HW.out]; rfl, hb⟩
    | cons k' n' s' kids' r' =>
      simp only [VL.len] at hj
      have hlt : j < kids.len := by omega
      have ha : a = some ⟨b, o, none⟩ := by
        rcases HA.out with h | h
        · rw [h] at hlt; simp [VL.len] at hlt
        · exact h
      subst ha
      obtain ⟨q0, q1, q2, q3, q4, q5, q6, ⟨a', cap', q7, q8⟩, q9⟩ := hr
      have hBw : w.heap.size ≤ wr.heap.size := hb.size
      have hBr : B ≤ wr.heap.size := by omega
      have HS : RepS B wr a' cap' kids' := q8
      have HM : Hid (RepL B wr b (o + j * 4 + 4) r') := q9
      clear q8 q9
      by_cases hc : vcnt 21 s' kids' ≤ 200
      · have HC : Hid (decide (vcnt 21 s' kids' ≤ 200) = true) := by show _ = _; simpa using hc
        clear hc
        go_wp2_with fail
        refine (Few_any B k' n' s' a' cap' kids' _ q3 (HS.below ((Below.refl _ _).alloc hBr _)) (le_alloc hBr _)).mono ?_
        rw [HC.out]
        rintro e w1 ⟨rfl, hb1⟩
        have h5 : Below B wr w1 := ((Below.refl _ _).alloc hBr _).trans (hb1.mono (le_alloc hBr _))
        go_wp2_with fail
        go_roundw
        case rel =>
          refine ⟨j + 1, r', by go_num, by omega, ?_, ?_, below_alloc_call hb hBw hb1⟩
          · have := HM.out.below h5
            rw [show o + (j + 1) * 4 = o + j * 4 + 4 from by omega]; exact this
          · show _ = _
            rw [HW.out]; simp only [VL.few, HC.out, Bool.true_and]
        case measure => simp [intOf]; omega
      · have HC : Hid (decide (vcnt 21 s' kids' ≤ 200) = false) := by show _ = _; simpa using hc
        clear hc
        go_wp2_with fail
        refine (Few_any B k' n' s' a' cap' kids' _ q3 (HS.below ((Below.refl _ _).alloc hBr _)) (le_alloc hBr _)).mono ?_
        rw [HC.out]
        rintro e w1 ⟨rfl, hb1⟩
        go_wp2_with fail
        go_ret
        refine ⟨?_, below_alloc_call hb hBw hb1⟩
        rw [HW.out]; simp only [VL.few, HC.out, Bool.false_and]; rfl
end Go.Proofs.Ytihllbblehjhlaa
