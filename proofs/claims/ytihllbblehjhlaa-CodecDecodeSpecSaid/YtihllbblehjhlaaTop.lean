/-
  Contracts of the reference's Encode and Size, of Int, Text, List, count, Few and few.
-/
import Derived.Test.YtihllbblehjhlaaChk
namespace Go.Proofs.Ytihllbblehjhlaa
open Go.RowKit

set_option maxHeartbeats 400000 in
theorem refTop_bad (B : Nat) (k n : Int) (s : ByteArray) (a : Option Addr) (cap : Nat) (kids : VL) (w : World) (hm : kids.sz ≤ 1000000000000) (hk : I64 k) (hn : I64 n) (hs : s.size ≤ maxLen) (hr : RepS B w a cap kids) (hB : B ≤ w.heap.size) (hc : ¬ vchk k n s kids = 0) :
    Calls Try.prog 9 #[.agg #[.int .i64 k, .int .i64 n, .string s, .slice a kids.len cap]] w fun e w' => e = .returned (.tuple #[.slice none 0 0, .int .i64 (vchk k n s kids)]) ∧ Below w.heap.size w w' := by
  have hr1 : RepS B (w.alloc (.cells #[.int .i64 k, .int .i64 n, .string s, .slice a kids.len cap] 24)) a cap kids := hr.below ((Below.refl _ _).alloc hB _)
  have g1 : (vchk k n s kids == 0) = false := by simpa using hc
  have hrg := vchk_range k n s kids
  go_enter Try.func9, Try.ntmps9
  go_wp2_with fail
  refine (refCheck_any B k n s a cap kids _ hm hk hn hs hr1 (le_alloc hB _)).mono ?_
  rintro e w1 ⟨rfl, hb⟩
  go_wp2_with fail
  go_ret2
  exact ⟨rfl, below_start (hb.mono (by simp))⟩

set_option maxHeartbeats 400000 in
theorem refTop_ok (B : Nat) (k n : Int) (s : ByteArray) (a : Option Addr) (cap : Nat) (kids : VL) (w : World) (hm : kids.sz ≤ 1000000000000) (hv : vsize k n s kids ≤ 1000000000000) (hk : I64 k) (hn : I64 n) (hs : s.size ≤ maxLen) (hr : RepS B w a cap kids) (hB : B ≤ w.heap.size) (hc : vchk k n s kids = 0) :
    Calls Try.prog 9 #[.agg #[.int .i64 k, .int .i64 n, .string s, .slice a kids.len cap]] w fun e w' => ∃ v, e = .returned (.tuple #[v, .int .i64 0]) ∧ OwnB w.heap.size w' v (venc k n s kids) ∧ Below w.heap.size w w' := by
  have hr1 : RepS B (w.alloc (.cells #[.int .i64 k, .int .i64 n, .string s, .slice a kids.len cap] 24)) a cap kids := hr.below ((Below.refl _ _).alloc hB _)
  have HC := Lib.hid hc
  clear hc
  go_enter Try.func9, Try.ntmps9
  go_wp2_with fail
  refine (refCheck_any B k n s a cap kids _ hm hk hn hs hr1 (le_alloc hB _)).mono ?_
  rw [HC.out]
  rintro e w1 ⟨rfl, hb⟩
  have hb0 : Below (w.heap.size + 1) (w.alloc (.cells #[.int .i64 k, .int .i64 n, .string s, .slice a kids.len cap] 24)) w1 := hb.mono (by simp)
  have hz : w.heap.size + 1 ≤ w1.heap.size := by simpa using hb0.size
  have hrw := hr.below (((Below.refl _ _).alloc hB _).trans (hb0.mono (by omega)))
  obtain ⟨c0, c1, c2, c3⟩ := box4 hb0
  go_wp2_with fail
  refine (refEncode kids.sz B k n s a cap kids _ (Nat.le_refl _) hv hk hn hs hrw (by omega)).mono ?_
  rintro e w2 ⟨v, rfl, hown, hb2⟩
  have HO := Lib.hid (hown.mono (show w.heap.size ≤ w1.heap.size by omega))
  clear hown
  go_wp2_with fail
  go_ret2
  exact ⟨_, rfl, HO.out, below_start (hb0.trans (hb2.mono hz))⟩

set_option maxHeartbeats 400000 in
theorem refSize_bad (B : Nat) (k n : Int) (s : ByteArray) (a : Option Addr) (cap : Nat) (kids : VL) (w : World) (hm : kids.sz ≤ 1000000000000) (hk : I64 k) (hn : I64 n) (hs : s.size ≤ maxLen) (hr : RepS B w a cap kids) (hB : B ≤ w.heap.size) (hc : ¬ vchk k n s kids = 0) :
    Calls Try.prog 11 #[.agg #[.int .i64 k, .int .i64 n, .string s, .slice a kids.len cap]] w fun e w' => e = .returned (.tuple #[.int .i64 0, .int .i64 (vchk k n s kids)]) ∧ Below w.heap.size w w' := by
  have hr1 : RepS B (w.alloc (.cells #[.int .i64 k, .int .i64 n, .string s, .slice a kids.len cap] 24)) a cap kids := hr.below ((Below.refl _ _).alloc hB _)
  go_enter Try.func11, Try.ntmps11
  go_wp2_with fail
  refine (refTop_bad B k n s a cap kids _ hm hk hn hs hr1 (le_alloc hB _) hc).mono ?_
  rintro e w1 ⟨rfl, hb⟩
  go_wp2_with fail
  go_ret2
  exact ⟨rfl, below_start (hb.mono (by simp))⟩

set_option maxHeartbeats 400000 in
theorem refSize_ok (B : Nat) (k n : Int) (s : ByteArray) (a : Option Addr) (cap : Nat) (kids : VL) (w : World) (hm : kids.sz ≤ 1000000000000) (hv : vsize k n s kids ≤ 1000000000000) (hk : I64 k) (hn : I64 n) (hs : s.size ≤ maxLen) (hr : RepS B w a cap kids) (hB : B ≤ w.heap.size) (hc : vchk k n s kids = 0) :
    Calls Try.prog 11 #[.agg #[.int .i64 k, .int .i64 n, .string s, .slice a kids.len cap]] w fun e w' => e = .returned (.tuple #[.int .i64 (vsize k n s kids : Nat), .int .i64 0]) ∧ Below w.heap.size w w' := by
  have hr1 : RepS B (w.alloc (.cells #[.int .i64 k, .int .i64 n, .string s, .slice a kids.len cap] 24)) a cap kids := hr.below ((Below.refl _ _).alloc hB _)
  have HL := Lib.hid (venc_length k n s kids)
  go_enter Try.func11, Try.ntmps11
  go_wp2_with fail
  refine (refTop_ok B k n s a cap kids _ hm hv hk hn hs hr1 (le_alloc hB _) hc).mono ?_
  rintro e w1 ⟨v, rfl, hown, hb⟩
  obtain ⟨a', cap', rfl, hfm, hrd⟩ := hown.form
  clear hown hfm hrd
  rw [HL.out]
  go_wp2_with fail
  go_ret2
  exact ⟨rfl, below_start (hb.mono (by simp))⟩

set_option maxHeartbeats 400000 in
theorem int_any (n : Int) (w : World) : Calls Try.prog 17 #[.int .i64 n] w fun e w' => e = .returned (.agg #[.int .i64 1, .int .i64 n, .string ByteArray.empty, .slice none 0 0]) ∧ Below w.heap.size w w' := by
  go_enter Try.func17, Try.ntmps17
  go_wp2
  exact bodyPost_ret (v := .agg #[.int .i64 1, .int .i64 n, .string ByteArray.empty, .slice none 0 0]) (by simp [results, Try.results17, go_sem]; rfl) rfl ⟨rfl, (Below.refl _ _).alloc (Nat.le_refl _) _⟩
set_option maxHeartbeats 400000 in
theorem text_any (s : ByteArray) (w : World) : Calls Try.prog 19 #[.string s] w fun e w' => e = .returned (.agg #[.int .i64 2, .int .i64 0, .string s, .slice none 0 0]) ∧ Below w.heap.size w w' := by
  go_enter Try.func19, Try.ntmps19
  go_wp2
  exact bodyPost_ret (v := .agg #[.int .i64 2, .int .i64 0, .string s, .slice none 0 0]) (by simp [results, Try.results19, go_sem]) rfl ⟨rfl, (Below.refl _ _).alloc (Nat.le_refl _) _⟩
set_option maxHeartbeats 400000 in
theorem list_any (a : Option Addr) (len cap : Nat) (w : World) : Calls Try.prog 18 #[.slice a len cap] w fun e w' => e = .returned (.agg #[.int .i64 3, .int .i64 0, .string ByteArray.empty, .slice a len cap]) ∧ Below w.heap.size w w' := by
  go_enter Try.func18, Try.ntmps18
  go_wp2
  exact bodyPost_ret (v := .agg #[.int .i64 3, .int .i64 0, .string ByteArray.empty, .slice a len cap]) (by simp [results, Try.results18, go_sem]; rfl) rfl ⟨rfl, (Below.refl _ _).alloc (Nat.le_refl _) _⟩
end Go.Proofs.Ytihllbblehjhlaa
