/-
  The walk of CodecEncodeSpec.
-/
import Derived.Test.YtihllbblehjhlaaSan
namespace Go.Proofs.Ytihllbblehjhlaa
open Go.RowKit

theorem conj6 {p1 p2 p3 p4 p5 p6 : Prop} (h : p1 ∧ p2 ∧ p3 ∧ p4) (k : p5 ∧ p6) : p1 ∧ p2 ∧ p3 ∧ p4 ∧ p5 ∧ p6 := ⟨h.1, h.2.1, h.2.2.1, h.2.2.2, k.1, k.2⟩
theorem one_rep (w : World) (k n : Int) (s : ByteArray) (a : Option Addr) (cap : Nat) (kids : VL) (hk : I64 k) (hn : I64 n) (hs : s.size ≤ maxLen) (hr : RepS w.heap.size w a cap kids) :
    RepS (w.heap.size + 1) (w.alloc (.cells #[.int .i64 k, .int .i64 n, .string s, .slice a kids.len cap] 24)) (some ⟨w.heap.size, 0, none⟩) 1 (.cons k n s kids .nil) := by
  have h1 := (hr.below ((Below.refl _ _).alloc (Nat.le_refl _) (.cells #[.int .i64 k, .int .i64 n, .string s, .slice a kids.len cap] 24))).mono (Nat.le_succ _)
  exact ⟨by show (1 : Nat) ≤ maxLen; unfold maxLen; omega, .inr ⟨_, _, rfl, ⟨by omega, hk, hn, hs, by simp, by simp, by simp, ⟨a, cap, by simp, h1.1, h1.2⟩, trivial⟩⟩⟩

set_option maxRecDepth 100000 in
set_option maxHeartbeats 1600000 in
theorem encode_walk (B : Nat) (k n : Int) (s : ByteArray) (a : Option Addr) (cap : Nat) (kids : VL) (w : World) (hk : I64 k) (hn : I64 n) (hs : s.size ≤ maxLen) (hr : RepS B w a cap kids) (hB : B ≤ w.heap.size) :
    Calls Try.prog 3 #[.agg #[.int .i64 k, .int .i64 n, .string s, .slice a kids.len cap]] w fun e w' => e = .returned (.bool true) ∧ Below w.heap.size w w' := by
  by_cases hf : vcnt 21 s kids ≤ 200
  · obtain ⟨f1, f2, f3, f4⟩ := vcnt_small (k := k) (n := n) hf
    have HF : Hid ((VL.cons k n s kids .nil).few = true) := by show _ = _; simp only [VL.few, hf, decide_true, Bool.and_self]
    have hm : kids.sz ≤ 1000000000000 := by omega
    have hv : vsize k n s kids ≤ 1000000000000 := by omega
    clear f1 f2 f3 f4 hf
    by_cases hc : vchk k n s kids = 0
    · have HL := Lib.hid (venc_length k n s kids)
      go_enter Try.func3, Try.ntmps3
      go_wp2_with fail
      refine (sane_any _).mono ?_
      rintro e w1 ⟨rfl, hb1⟩
      have hb0 : Below (w.heap.size + 1) (w.alloc (.cells #[.int .i64 k, .int .i64 n, .string s, .slice a kids.len cap] 24)) w1 := hb1.mono (by simp)
      obtain ⟨c0, c1, c2, c3⟩ := box4 hb0
      have hz1 : w.heap.size + 1 ≤ w1.heap.size := by simpa using hb0.size
      have hr1 := (hr.below ((below_start hb0).mono hB)).mono (show B ≤ w1.heap.size by omega)
      go_wp2_with fail
      refine (few_any (w1.heap.size + 1) (some ⟨w1.heap.size, 0, none⟩) 1 (.cons k n s kids .nil) _ (one_rep w1 k n s a cap kids hk hn hs hr1) (by simp)).mono ?_
      rw [HF.out]
      rintro e w2 ⟨rfl, hb2⟩
      have hb02 : Below (w.heap.size + 1) (w.alloc (.cells #[.int .i64 k, .int .i64 n, .string s, .slice a kids.len cap] 24)) w2 := hb0.trans (((Below.refl _ _).alloc hz1 _).trans (hb2.mono (by simp; omega)))
      clear c0 c1 c2 c3 hb1 hb2 hb0
      obtain ⟨c0, c1, c2, c3⟩ := box4 hb02
      have hz2 : w.heap.size + 1 ≤ w2.heap.size := by simpa using hb02.size
      have hr2 := hr.below ((below_start hb02).mono hB)
      go_wp2_with fail
      refine (encode_ok B k n s a cap kids _ hm hv hk hn hs hr2 (by omega) hc).mono ?_
      rintro e w3 ⟨v3, rfl, ho3, hb3⟩
      have hb03 : Below (w.heap.size + 1) (w.alloc (.cells #[.int .i64 k, .int .i64 n, .string s, .slice a kids.len cap] 24)) w3 := hb02.trans (hb3.mono hz2)
      clear c0 c1 c2 c3
      obtain ⟨c0, c1, c2, c3⟩ := box4 hb03
      have hz3 : w.heap.size + 1 ≤ w3.heap.size := by simpa using hb03.size
      have hr3 := hr.below ((below_start hb03).mono hB)
      obtain ⟨a3, cap3, rfl, _, hrd3⟩ := ho3.form
      rw [HL.out]
      clear ho3
      go_wp2_with fail
      refine (refTop_ok B k n s a cap kids _ hm hv hk hn hs hr3 (by omega) hc).mono ?_
      rintro e w4 ⟨v4, rfl, ho4, hb4⟩
      have hb04 : Below (w.heap.size + 1) (w.alloc (.cells #[.int .i64 k, .int .i64 n, .string s, .slice a kids.len cap] 24)) w4 := hb03.trans (hb4.mono hz3)
      clear c0 c1 c2 c3
      obtain ⟨c0, c1, c2, c3⟩ := box4 hb04
      have hz4 : w.heap.size + 1 ≤ w4.heap.size := by simpa using hb04.size
      have hr4 := hr.below ((below_start hb04).mono hB)
      obtain ⟨a4, cap4, rfl, _, hrd4⟩ := ho4.form
      rw [HL.out]
      have hrd34 := hrd3.below hb4
      clear ho4
      go_wp2_with fail
      refine (size_ok B k n s a cap kids _ hm hv hk hn hs hr4 (by omega) hc).mono ?_
      rintro e w5 ⟨rfl, hb5⟩
      have hb05 : Below (w.heap.size + 1) (w.alloc (.cells #[.int .i64 k, .int .i64 n, .string s, .slice a kids.len cap] 24)) w5 := hb04.trans (hb5.mono hz4)
      clear c0 c1 c2 c3
      obtain ⟨c0, c1, c2, c3⟩ := box4 hb05
      have hz5 : w.heap.size + 1 ≤ w5.heap.size := by simpa using hb05.size
      have hr5 := hr.below ((below_start hb05).mono hB)
      go_wp2_with fail
      refine (refSize_ok B k n s a cap kids _ hm hv hk hn hs hr5 (by omega) hc).mono ?_
      rintro e w6 ⟨rfl, hb6⟩
      have hb06 : Below (w.heap.size + 1) (w.alloc (.cells #[.int .i64 k, .int .i64 n, .string s, .slice a kids.len cap] 24)) w6 := hb05.trans (hb6.mono hz5)
      clear c0 c1 c2 c3
      obtain ⟨c0, c1, c2, c3⟩ := box4 hb06
      have hz6 : w.heap.size + 1 ≤ w6.heap.size := by simpa using hb06.size
      have hr6 := hr.below ((below_start hb06).mono hB)
      go_wp2_with fail
      have hB6 : B ≤ w6.heap.size := by omega
      have h45 : w4.heap.size ≤ w6.heap.size := Nat.le_trans hb5.size hb6.size
      have h34 : w3.heap.size ≤ w4.heap.size := hb4.size
      have h46 : Below w4.heap.size w4 w6 := hb5.trans (hb6.mono hb5.size)
      obtain ⟨st, HST⟩ : ∃ st, Hid (st = ByteArray.mk (venc k n s kids).toArray) := ⟨_, Lib.hid rfl⟩
      have HC : ∀ W, Below w4.heap.size w4 W → (convert 27 9 (.slice a3 (vsize k n s kids) cap3)).run Try.prog W = .ok (.string st) W ∧ (convert 27 9 (.slice a4 (vsize k n s kids) cap4)).run Try.prog W = .ok (.string st) W := by
        intro W hW
        rw [← HL.out, HST.out]
        exact ⟨run_strB cap3 (hrd34.below (hW.mono h34)), run_strB cap4 (hrd4.below hW)⟩
      have HCV := Lib.hid HC
      clear HC hrd3 hrd4 hrd34 hb3 hb4 hb5 hb6
      go_region_held3 (fun w' => w'.cell? ⟨w.heap.size, 0, none⟩ = some (.int .i64 k) ∧ w'.cell? ⟨w.heap.size, 1, none⟩ = some (.int .i64 n) ∧ w'.cell? ⟨w.heap.size, 2, none⟩ = some (.string s) ∧ w'.cell? ⟨w.heap.size, 3, none⟩ = some (.slice a kids.len cap) ∧ (convert 27 9 (.slice a3 (vsize k n s kids) cap3)).run Try.prog w' = .ok (.string st) w' ∧ (convert 27 9 (.slice a4 (vsize k n s kids) cap4)).run Try.prog w' = .ok (.string st) w')
        (first
          | exact conj6 (box4 hb08) (HCV.out _ hw8)
          | exact conj6 (box4 hb07) (HCV.out _ hw7)
          | exact conj6 (box4 hb06.drew) (HCV.out _ h46.drew))
        (first
          | (go_at_call 12
             refine (check_any B k n s a cap kids _ hm hk hn hs (hr6.below (Below.refl _ _).drew) hB6).mono ?_
             rintro e w7 ⟨rfl, hb7⟩
             have hb07 := (hb06.drew).trans (hb7.mono hz6)
             have hz7 := Nat.le_trans hz6 hb7.size
             have hr7 := hr6.below (Below.trans (Below.drew (Below.refl B w6)) (hb7.mono hB6))
             have hw7 := (h46.drew).trans (hb7.mono h45)
             have h47 := Nat.le_trans h45 hb7.size
             have hB7 : B ≤ w7.heap.size := Nat.le_trans hB6 hb7.size)
          | (go_at_call 13
             refine (refCheck_any B k n s a cap kids _ hm hk hn hs hr7 hB7).mono ?_
             rintro e w8 ⟨rfl, hb8⟩
             have hw8 := hw7.trans (hb8.mono h47)
             have hb08 := hb07.trans (hb8.mono hz7)))
      go_wp2
      go_ret
      exact ⟨rfl, below_start hb08⟩
    have hnil : ∀ W : World, (convert 27 9 (.slice none 0 0)).run Try.prog W = .ok (.string ByteArray.empty) W := fun W => run_convert_bytes_nil W _ _ Try.underlying27 Try.underlying5 0 0 _ Try.underlying9
    go_enter Try.func3, Try.ntmps3
    go_wp2_with fail
    refine (sane_any _).mono ?_
    rintro e w1 ⟨rfl, hb1⟩
    have hb0 : Below (w.heap.size + 1) (w.alloc (.cells #[.int .i64 k, .int .i64 n, .string s, .slice a kids.len cap] 24)) w1 := hb1.mono (by simp)
    obtain ⟨c0, c1, c2, c3⟩ := box4 hb0
    have hz1 : w.heap.size + 1 ≤ w1.heap.size := by simpa using hb0.size
    have hr1 := (hr.below ((below_start hb0).mono hB)).mono (show B ≤ w1.heap.size by omega)
    go_wp2_with fail
    refine (few_any (w1.heap.size + 1) (some ⟨w1.heap.size, 0, none⟩) 1 (.cons k n s kids .nil) _ (one_rep w1 k n s a cap kids hk hn hs hr1) (by simp)).mono ?_
    rw [HF.out]
    rintro e w2 ⟨rfl, hb2⟩
    have hb02 : Below (w.heap.size + 1) (w.alloc (.cells #[.int .i64 k, .int .i64 n, .string s, .slice a kids.len cap] 24)) w2 := hb0.trans (((Below.refl _ _).alloc hz1 _).trans (hb2.mono (by simp; omega)))
    clear c0 c1 c2 c3 hb1 hb2 hb0
    obtain ⟨c0, c1, c2, c3⟩ := box4 hb02
    have hz2 : w.heap.size + 1 ≤ w2.heap.size := by simpa using hb02.size
    have hr2 := hr.below ((below_start hb02).mono hB)
    go_wp2_with fail
    refine (encode_bad B k n s a cap kids _ (by omega) hk hn hs hr2 (by omega) hc).mono ?_
    rintro e w3 ⟨rfl, hb3⟩
    have hb03 : Below (w.heap.size + 1) (w.alloc (.cells #[.int .i64 k, .int .i64 n, .string s, .slice a kids.len cap] 24)) w3 := hb02.trans (hb3.mono hz2)
    clear c0 c1 c2 c3
    obtain ⟨c0, c1, c2, c3⟩ := box4 hb03
    have hz3 : w.heap.size + 1 ≤ w3.heap.size := by simpa using hb03.size
    have hr3 := hr.below ((below_start hb03).mono hB)
    go_wp2_with fail
    refine (refTop_bad B k n s a cap kids _ (by omega) hk hn hs hr3 (by omega) hc).mono ?_
    rintro e w4 ⟨rfl, hb4⟩
    have hb04 : Below (w.heap.size + 1) (w.alloc (.cells #[.int .i64 k, .int .i64 n, .string s, .slice a kids.len cap] 24)) w4 := hb03.trans (hb4.mono hz3)
    clear c0 c1 c2 c3
    obtain ⟨c0, c1, c2, c3⟩ := box4 hb04
    have hz4 : w.heap.size + 1 ≤ w4.heap.size := by simpa using hb04.size
    have hr4 := hr.below ((below_start hb04).mono hB)
    go_wp2_with fail
    refine (size_bad B k n s a cap kids _ (by omega) hk hn hs hr4 (by omega) hc).mono ?_
    rintro e w5 ⟨rfl, hb5⟩
    have hb05 : Below (w.heap.size + 1) (w.alloc (.cells #[.int .i64 k, .int .i64 n, .string s, .slice a kids.len cap] 24)) w5 := hb04.trans (hb5.mono hz4)
    clear c0 c1 c2 c3
    obtain ⟨c0, c1, c2, c3⟩ := box4 hb05
    have hz5 : w.heap.size + 1 ≤ w5.heap.size := by simpa using hb05.size
    have hr5 := hr.below ((below_start hb05).mono hB)
    go_wp2_with fail
    refine (refSize_bad B k n s a cap kids _ (by omega) hk hn hs hr5 (by omega) hc).mono ?_
    rintro e w6 ⟨rfl, hb6⟩
    have hb06 : Below (w.heap.size + 1) (w.alloc (.cells #[.int .i64 k, .int .i64 n, .string s, .slice a kids.len cap] 24)) w6 := hb05.trans (hb6.mono hz5)
    clear c0 c1 c2 c3
    obtain ⟨c0, c1, c2, c3⟩ := box4 hb06
    have hz6 : w.heap.size + 1 ≤ w6.heap.size := by simpa using hb06.size
    have hr6 := hr.below ((below_start hb06).mono hB)
    go_wp2_with fail
    have hB6 : B ≤ w6.heap.size := by omega
    go_region_held3 (fun w' => w'.cell? ⟨w.heap.size, 0, none⟩ = some (.int .i64 k) ∧ w'.cell? ⟨w.heap.size, 1, none⟩ = some (.int .i64 n) ∧ w'.cell? ⟨w.heap.size, 2, none⟩ = some (.string s) ∧ w'.cell? ⟨w.heap.size, 3, none⟩ = some (.slice a kids.len cap))
      (first
        | exact box4 hb08
        | exact box4 hb07
        | exact box4 hb06.drew)
      (first
        | (go_at_call 12
           refine (check_any B k n s a cap kids _ hm hk hn hs (hr6.below (Below.refl _ _).drew) hB6).mono ?_
           rintro e w7 ⟨rfl, hb7⟩
           have hb07 := (hb06.drew).trans (hb7.mono hz6)
           have hz7 := Nat.le_trans hz6 hb7.size
           have hr7 := hr6.below (Below.trans (Below.drew (Below.refl B w6)) (hb7.mono hB6))
           have hB7 : B ≤ w7.heap.size := Nat.le_trans hB6 hb7.size)
        | (go_at_call 13
           refine (refCheck_any B k n s a cap kids _ hm hk hn hs hr7 hB7).mono ?_
           rintro e w8 ⟨rfl, hb8⟩
           have hb08 := hb07.trans (hb8.mono hz7)))
    go_wp2
    go_ret
    exact ⟨rfl, below_start hb08⟩
  · have HF : Hid ((VL.cons k n s kids .nil).few = false) := by show _ = _; simp only [VL.few, hf, decide_false, Bool.false_and]
    clear hf
    go_enter Try.func3, Try.ntmps3
    go_wp2_with fail
    refine (sane_any _).mono ?_
    rintro e w1 ⟨rfl, hb1⟩
    have hb0 : Below (w.heap.size + 1) (w.alloc (.cells #[.int .i64 k, .int .i64 n, .string s, .slice a kids.len cap] 24)) w1 := hb1.mono (by simp)
    obtain ⟨c0, c1, c2, c3⟩ := box4 hb0
    have hz1 : w.heap.size + 1 ≤ w1.heap.size := by simpa using hb0.size
    have hr1 := (hr.below ((below_start hb0).mono hB)).mono (show B ≤ w1.heap.size by omega)
    go_wp2_with fail
    refine (few_any (w1.heap.size + 1) (some ⟨w1.heap.size, 0, none⟩) 1 (.cons k n s kids .nil) _ (one_rep w1 k n s a cap kids hk hn hs hr1) (by simp)).mono ?_
    rw [HF.out]
    rintro e w2 ⟨rfl, hb2⟩
    go_wp2_with fail
    go_ret
    exact ⟨rfl, (below_start hb0).trans (((Below.refl _ _).alloc (by omega) _).trans (hb2.mono (by simp; omega)))⟩
end Go.Proofs.Ytihllbblehjhlaa
