/-
  Contracts of Check, Size and Encode (both), and of Int, Text, List.
-/
import Derived.Test.YtihllbblehjhlaaWf
import Derived.Test.YtihllbblehjhlaaDep
import Derived.Test.YtihllbblehjhlaaWri
import Derived.Test.YtihllbblehjhlaaRen
import Derived.Laws.MakeOwn
namespace Go.Proofs.Ytihllbblehjhlaa
open Go.RowKit

/-- What Check answers. -/
def vchk (k n : Int) (s : ByteArray) (kids : VL) : Int := if vwf k n s kids = true then (if 16 < vdepth k kids then 2 else 0) else 1
theorem vchk_bad {k n : Int} {s : ByteArray} {kids : VL} (h : vwf k n s kids = false) : vchk k n s kids = 1 := by simp [vchk, h]
theorem vchk_deep {k n : Int} {s : ByteArray} {kids : VL} (h : vwf k n s kids = true) (h2 : 16 < vdepth k kids) : vchk k n s kids = 2 := by simp [vchk, h, h2]
theorem vchk_ok {k n : Int} {s : ByteArray} {kids : VL} (h : vwf k n s kids = true) (h2 : ¬ 16 < vdepth k kids) : vchk k n s kids = 0 := by simp [vchk, h, h2]

set_option maxHeartbeats 400000 in
theorem check_any (B : Nat) (k n : Int) (s : ByteArray) (a : Option Addr) (cap : Nat) (kids : VL) (w : World) (hm : kids.sz ≤ 1000000000000) (hk : I64 k) (hn : I64 n) (hs : s.size ≤ maxLen) (hr : RepS B w a cap kids) (hB : B ≤ w.heap.size) :
    Calls Try.prog 12 #[.agg #[.int .i64 k, .int .i64 n, .string s, .slice a kids.len cap]] w fun e w' => e = .returned (.int .i64 (vchk k n s kids)) ∧ Below w.heap.size w w' := by
  have hr1 : RepS B (w.alloc (.cells #[.int .i64 k, .int .i64 n, .string s, .slice a kids.len cap] 24)) a cap kids := hr.below ((Below.refl _ _).alloc hB _)
  have hB1 : B ≤ (w.alloc (.cells #[.int .i64 k, .int .i64 n, .string s, .slice a kids.len cap] 24)).heap.size := le_alloc hB _
  have hdl : vdepth k kids ≤ 2000000000000 := by have := kids.depth_le; unfold vdepth; split <;> omega
  have HK := Lib.hid hk
  have HN := Lib.hid hn
  have HS := Lib.hid hs
  clear hk hn hs
  cases hw : vwf k n s kids with
  | false =>
    have HW := Lib.hid hw
    clear hw
    go_enter Try.func12, Try.ntmps12
    go_wp2_with fail
    refine (wf_any kids.sz B k n s a cap kids _ (Nat.le_refl _) HK.out HN.out HS.out hr1 hB1).mono ?_
    rw [HW.out]
    rintro e w1 ⟨rfl, hb⟩
    go_wp2_with fail
    go_ret
    exact ⟨by rw [vchk_bad HW.out]; rfl, below_start (hb.mono (by simp))⟩
  | true =>
    have HW := Lib.hid hw
    clear hw
    by_cases hd : 16 < vdepth k kids
    · go_enter Try.func12, Try.ntmps12
      go_wp2_with fail
      refine (wf_any kids.sz B k n s a cap kids _ (Nat.le_refl _) HK.out HN.out HS.out hr1 hB1).mono ?_
      rw [HW.out]
      rintro e w1 ⟨rfl, hb⟩
      have hb0 : Below (w.heap.size + 1) (w.alloc (.cells #[.int .i64 k, .int .i64 n, .string s, .slice a kids.len cap] 24)) w1 := hb.mono (by simp)
      have hz : B ≤ w1.heap.size := by have := hb0.size; simp at this; omega
      obtain ⟨c0, c1, c2, c3⟩ := box4 hb0
      go_wp2_with fail
      refine (depth_any kids.sz B k n s a cap kids _ (Nat.le_refl _) (by omega) HK.out HN.out HS.out (hr.below (((Below.refl _ _).alloc hB _).trans (hb0.mono (by omega)))) hz).mono ?_
      rintro e w2 ⟨rfl, hb2⟩
      go_wp2_with fail
      go_ret
      exact ⟨by rw [vchk_deep HW.out (by omega)]; rfl, below_start (hb0.trans (hb2.mono (by have := hb0.size; simpa using this)))⟩
    · go_enter Try.func12, Try.ntmps12
      go_wp2_with fail
      refine (wf_any kids.sz B k n s a cap kids _ (Nat.le_refl _) HK.out HN.out HS.out hr1 hB1).mono ?_
      rw [HW.out]
      rintro e w1 ⟨rfl, hb⟩
      have hb0 : Below (w.heap.size + 1) (w.alloc (.cells #[.int .i64 k, .int .i64 n, .string s, .slice a kids.len cap] 24)) w1 := hb.mono (by simp)
      have hz : B ≤ w1.heap.size := by have := hb0.size; simp at this; omega
      obtain ⟨c0, c1, c2, c3⟩ := box4 hb0
      go_wp2_with fail
      refine (depth_any kids.sz B k n s a cap kids _ (Nat.le_refl _) (by omega) HK.out HN.out HS.out (hr.below (((Below.refl _ _).alloc hB _).trans (hb0.mono (by omega)))) hz).mono ?_
      rintro e w2 ⟨rfl, hb2⟩
      go_wp2_with fail
      go_ret
      exact ⟨by rw [vchk_ok HW.out (by omega)]; rfl, below_start (hb0.trans (hb2.mono (by have := hb0.size; simpa using this)))⟩

set_option maxHeartbeats 400000 in
theorem refCheck_any (B : Nat) (k n : Int) (s : ByteArray) (a : Option Addr) (cap : Nat) (kids : VL) (w : World) (hm : kids.sz ≤ 1000000000000) (hk : I64 k) (hn : I64 n) (hs : s.size ≤ maxLen) (hr : RepS B w a cap kids) (hB : B ≤ w.heap.size) :
    Calls Try.prog 13 #[.agg #[.int .i64 k, .int .i64 n, .string s, .slice a kids.len cap]] w fun e w' => e = .returned (.int .i64 (vchk k n s kids)) ∧ Below w.heap.size w w' := by
  have hr1 : RepS B (w.alloc (.cells #[.int .i64 k, .int .i64 n, .string s, .slice a kids.len cap] 24)) a cap kids := hr.below ((Below.refl _ _).alloc hB _)
  have hB1 : B ≤ (w.alloc (.cells #[.int .i64 k, .int .i64 n, .string s, .slice a kids.len cap] 24)).heap.size := le_alloc hB _
  have hdl : vdepth k kids ≤ 2000000000000 := by have := kids.depth_le; unfold vdepth; split <;> omega
  have HK := Lib.hid hk
  have HN := Lib.hid hn
  have HS := Lib.hid hs
  clear hk hn hs
  cases hw : vwf k n s kids with
  | false =>
    have HW := Lib.hid hw
    clear hw
    go_enter Try.func13, Try.ntmps13
    go_wp2_with fail
    refine (formed_any kids.sz B k n s a cap kids _ (Nat.le_refl _) HK.out HN.out HS.out hr1 hB1).mono ?_
    rw [HW.out]
    rintro e w1 ⟨rfl, hb⟩
    go_wp2_with fail
    go_ret
    exact ⟨by rw [vchk_bad HW.out]; rfl, below_start (hb.mono (by simp))⟩
  | true =>
    have HW := Lib.hid hw
    clear hw
    by_cases hd : 16 < vdepth k kids
    · go_enter Try.func13, Try.ntmps13
      go_wp2_with fail
      refine (formed_any kids.sz B k n s a cap kids _ (Nat.le_refl _) HK.out HN.out HS.out hr1 hB1).mono ?_
      rw [HW.out]
      rintro e w1 ⟨rfl, hb⟩
      have hb0 : Below (w.heap.size + 1) (w.alloc (.cells #[.int .i64 k, .int .i64 n, .string s, .slice a kids.len cap] 24)) w1 := hb.mono (by simp)
      have hz : B ≤ w1.heap.size := by have := hb0.size; simp at this; omega
      obtain ⟨c0, c1, c2, c3⟩ := box4 hb0
      go_wp2_with fail
      refine (refDepth_any kids.sz B k n s a cap kids _ (Nat.le_refl _) (by omega) HK.out HN.out HS.out (hr.below (((Below.refl _ _).alloc hB _).trans (hb0.mono (by omega)))) hz).mono ?_
      rintro e w2 ⟨rfl, hb2⟩
      go_wp2_with fail
      go_ret
      exact ⟨by rw [vchk_deep HW.out (by omega)]; rfl, below_start (hb0.trans (hb2.mono (by have := hb0.size; simpa using this)))⟩
    · go_enter Try.func13, Try.ntmps13
      go_wp2_with fail
      refine (formed_any kids.sz B k n s a cap kids _ (Nat.le_refl _) HK.out HN.out HS.out hr1 hB1).mono ?_
      rw [HW.out]
      rintro e w1 ⟨rfl, hb⟩
      have hb0 : Below (w.heap.size + 1) (w.alloc (.cells #[.int .i64 k, .int .i64 n, .string s, .slice a kids.len cap] 24)) w1 := hb.mono (by simp)
      have hz : B ≤ w1.heap.size := by have := hb0.size; simp at this; omega
      obtain ⟨c0, c1, c2, c3⟩ := box4 hb0
      go_wp2_with fail
      refine (refDepth_any kids.sz B k n s a cap kids _ (Nat.le_refl _) (by omega) HK.out HN.out HS.out (hr.below (((Below.refl _ _).alloc hB _).trans (hb0.mono (by omega)))) hz).mono ?_
      rintro e w2 ⟨rfl, hb2⟩
      go_wp2_with fail
      go_ret
      exact ⟨by rw [vchk_ok HW.out (by omega)]; rfl, below_start (hb0.trans (hb2.mono (by have := hb0.size; simpa using this)))⟩


theorem vchk_ok_iff {k n : Int} {s : ByteArray} {kids : VL} (h : vchk k n s kids = 0) : vwf k n s kids = true ∧ vdepth k kids ≤ 16 := by
  unfold vchk at h
  by_cases h1 : vwf k n s kids = true
  · rw [if_pos h1] at h
    by_cases h2 : 16 < vdepth k kids
    · rw [if_pos h2] at h; cases h
    · exact ⟨h1, by omega⟩
  · rw [if_neg h1] at h; cases h
theorem vwf_kind {k n : Int} {s : ByteArray} {kids : VL} (h : vwf k n s kids = true) : (k = 1 ∨ k = 2 ∨ k = 3) ∧ kids.wf = true := by
  by_cases h1 : k = 1
  · subst h1; simp [vwf] at h; exact ⟨.inl rfl, by cases kids <;> simp_all [VL.isNil, VL.wf]⟩
  · by_cases h2 : k = 2
    · subst h2; simp [vwf] at h; exact ⟨.inr (.inl rfl), by cases kids <;> simp_all [VL.isNil, VL.wf]⟩
    · by_cases h3 : k = 3
      · subst h3; simp [vwf] at h; exact ⟨.inr (.inr rfl), h.1⟩
      · simp [vwf, h1, h2, h3] at h
theorem vchk_range (k n : Int) (s : ByteArray) (kids : VL) : 0 ≤ vchk k n s kids ∧ vchk k n s kids ≤ 2 := by unfold vchk; split <;> (try split) <;> omega

set_option maxHeartbeats 400000 in
theorem size_bad (B : Nat) (k n : Int) (s : ByteArray) (a : Option Addr) (cap : Nat) (kids : VL) (w : World) (hm : kids.sz ≤ 1000000000000) (hk : I64 k) (hn : I64 n) (hs : s.size ≤ maxLen) (hr : RepS B w a cap kids) (hB : B ≤ w.heap.size) (hc : ¬ vchk k n s kids = 0) :
    Calls Try.prog 10 #[.agg #[.int .i64 k, .int .i64 n, .string s, .slice a kids.len cap]] w fun e w' => e = .returned (.tuple #[.int .i64 0, .int .i64 (vchk k n s kids)]) ∧ Below w.heap.size w w' := by
  have hr1 : RepS B (w.alloc (.cells #[.int .i64 k, .int .i64 n, .string s, .slice a kids.len cap] 24)) a cap kids := hr.below ((Below.refl _ _).alloc hB _)
  have g1 : (vchk k n s kids == 0) = false := by simpa using hc
  have hrg := vchk_range k n s kids
  go_enter Try.func10, Try.ntmps10
  go_wp2_with fail
  refine (check_any B k n s a cap kids _ hm hk hn hs hr1 (le_alloc hB _)).mono ?_
  rintro e w1 ⟨rfl, hb⟩
  go_wp2_with fail
  go_ret2
  exact ⟨rfl, below_start (hb.mono (by simp))⟩

set_option maxHeartbeats 400000 in
theorem size_ok (B : Nat) (k n : Int) (s : ByteArray) (a : Option Addr) (cap : Nat) (kids : VL) (w : World) (hm : kids.sz ≤ 1000000000000) (hv : vsize k n s kids ≤ 1000000000000) (hk : I64 k) (hn : I64 n) (hs : s.size ≤ maxLen) (hr : RepS B w a cap kids) (hB : B ≤ w.heap.size) (hc : vchk k n s kids = 0) :
    Calls Try.prog 10 #[.agg #[.int .i64 k, .int .i64 n, .string s, .slice a kids.len cap]] w fun e w' => e = .returned (.tuple #[.int .i64 (vsize k n s kids : Nat), .int .i64 0]) ∧ Below w.heap.size w w' := by
  have hr1 : RepS B (w.alloc (.cells #[.int .i64 k, .int .i64 n, .string s, .slice a kids.len cap] 24)) a cap kids := hr.below ((Below.refl _ _).alloc hB _)
  have HC := Lib.hid hc
  clear hc
  go_enter Try.func10, Try.ntmps10
  go_wp2_with fail
  refine (check_any B k n s a cap kids _ hm hk hn hs hr1 (le_alloc hB _)).mono ?_
  rw [HC.out]
  rintro e w1 ⟨rfl, hb⟩
  have hb0 : Below (w.heap.size + 1) (w.alloc (.cells #[.int .i64 k, .int .i64 n, .string s, .slice a kids.len cap] 24)) w1 := hb.mono (by simp)
  have hz : B ≤ w1.heap.size := by have := hb0.size; simp at this; omega
  obtain ⟨c0, c1, c2, c3⟩ := box4 hb0
  go_wp2_with fail
  refine (size_any kids.sz B k n s a cap kids _ (Nat.le_refl _) hv hk hn hs (hr.below (((Below.refl _ _).alloc hB _).trans (hb0.mono (by omega)))) hz).mono ?_
  rintro e w2 ⟨rfl, hb2⟩
  go_wp2_with fail
  go_ret2
  exact ⟨rfl, below_start (hb0.trans (hb2.mono (by have := hb0.size; simpa using this)))⟩

set_option maxHeartbeats 400000 in
theorem encode_bad (B : Nat) (k n : Int) (s : ByteArray) (a : Option Addr) (cap : Nat) (kids : VL) (w : World) (hm : kids.sz ≤ 1000000000000) (hk : I64 k) (hn : I64 n) (hs : s.size ≤ maxLen) (hr : RepS B w a cap kids) (hB : B ≤ w.heap.size) (hc : ¬ vchk k n s kids = 0) :
    Calls Try.prog 8 #[.agg #[.int .i64 k, .int .i64 n, .string s, .slice a kids.len cap]] w fun e w' => e = .returned (.tuple #[.slice none 0 0, .int .i64 (vchk k n s kids)]) ∧ Below w.heap.size w w' := by
  have hr1 : RepS B (w.alloc (.cells #[.int .i64 k, .int .i64 n, .string s, .slice a kids.len cap] 24)) a cap kids := hr.below ((Below.refl _ _).alloc hB _)
  have g1 : (vchk k n s kids == 0) = false := by simpa using hc
  have hrg := vchk_range k n s kids
  go_enter Try.func8, Try.ntmps8
  go_wp2_with fail
  refine (size_bad B k n s a cap kids _ hm hk hn hs hr1 (le_alloc hB _) hc).mono ?_
  rintro e w1 ⟨rfl, hb⟩
  go_wp2_with fail
  go_ret2
  exact ⟨rfl, below_start (hb.mono (by simp))⟩

set_option maxRecDepth 100000 in
set_option maxHeartbeats 400000 in
theorem encode_ok (B : Nat) (k n : Int) (s : ByteArray) (a : Option Addr) (cap : Nat) (kids : VL) (w : World) (hm : kids.sz ≤ 1000000000000) (hv : vsize k n s kids ≤ 1000000000000) (hk : I64 k) (hn : I64 n) (hs : s.size ≤ maxLen) (hr : RepS B w a cap kids) (hB : B ≤ w.heap.size) (hc : vchk k n s kids = 0) :
    Calls Try.prog 8 #[.agg #[.int .i64 k, .int .i64 n, .string s, .slice a kids.len cap]] w fun e w' => ∃ v, e = .returned (.tuple #[v, .int .i64 0]) ∧ OwnB w.heap.size w' v (venc k n s kids) ∧ Below w.heap.size w w' := by
  have hr1 : RepS B (w.alloc (.cells #[.int .i64 k, .int .i64 n, .string s, .slice a kids.len cap] 24)) a cap kids := hr.below ((Below.refl _ _).alloc hB _)
  have HV := Lib.hid (vwf_kind (vchk_ok_iff hc).1)
  have HC := Lib.hid hc
  clear hc
  have hmk := run_makeB (vsize k n s kids) (by omega)
  go_enter Try.func8, Try.ntmps8
  go_wp2_with fail
  refine (size_ok B k n s a cap kids _ hm hv hk hn hs hr1 (le_alloc hB _) HC.out).mono ?_
  rintro e w1 ⟨rfl, hb⟩
  have hb0 : Below (w.heap.size + 1) (w.alloc (.cells #[.int .i64 k, .int .i64 n, .string s, .slice a kids.len cap] 24)) w1 := hb.mono (by simp)
  have hz : w.heap.size + 1 ≤ w1.heap.size := by simpa using hb0.size
  have hrw := hr.below (((Below.refl _ _).alloc hB _).trans (hb0.mono (by omega)))
  have hbx := box4 hb0
  obtain ⟨c0, c1, c2, c3⟩ := hbx
  have hBz : B ≤ w1.heap.size := by omega
  go_wp2_with fail
  go_region_held3 (fun w' => w'.cell? ⟨w.heap.size, 0, none⟩ = some (.int .i64 k) ∧ w'.cell? ⟨w.heap.size, 1, none⟩ = some (.int .i64 n) ∧ w'.cell? ⟨w.heap.size, 2, none⟩ = some (.string s) ∧ w'.cell? ⟨w.heap.size, 3, none⟩ = some (.slice a kids.len cap))
    (first
      | exact hq2
      | exact box4 (hb0.drew)
      | exact box4 ((hb0.alloc hz _).drew))
    (first
      | (go_at_call 22
         refine (write_any kids.sz w.heap.size k n s a cap kids _ [] _ (Nat.le_refl _) HV.out.1 HV.out.2 hv hn hs ?_ (OwnB.made _ ?_ ?_).drew ?_ ?_).mono ?_
         · exact RepS.mono (RepS.below (((Below.refl _ _).alloc hBz _).drew) hrw) hB
         · omega
         · omega
         · simp only [List.length_nil]; omega
         · simp; omega
         rintro e w2 ⟨v2, rfl, hown, hg⟩
         have hq2 := box4_grew hg (Nat.lt_of_lt_of_le hz (Nat.le_of_lt (lt_alloc_drew _ _))) (by simp [Value.ownBlock]; omega) (box4 ((hb0.alloc hz _).drew))
         have HO := Lib.hid hown
         have hzw : w.heap.size ≤ w1.heap.size := by omega
         have hrow : ∀ k', (Value.slice (some ⟨w1.heap.size, 0, none⟩) 0 (vsize k n s kids)).ownBlock = some k' → w.heap.size ≤ k' := by
           intro k' hk'; simp [Value.ownBlock] at hk'; omega
         have HG := Lib.hid ((below_start hb0).trans ((((Below.refl w.heap.size w1).alloc hzw _).drew).trans (hg.below hrow (le_alloc_drew hzw _))))))
  go_wp2
  go_ret2
  exact ⟨_, rfl, HO.out, HG.out⟩
end Go.Proofs.Ytihllbblehjhlaa
