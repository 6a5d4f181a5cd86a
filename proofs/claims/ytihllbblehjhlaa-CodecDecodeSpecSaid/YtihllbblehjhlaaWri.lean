/-
  Contracts of writers, writeInt, writeText, writeList, write (codec).
-/
import Derived.Test.YtihllbblehjhlaaEnc
import Derived.Laws.EntriesVeiled
namespace Go.Proofs.Ytihllbblehjhlaa
open Go.RowKit

set_option maxHeartbeats 400000 in
theorem writers_any (w : World) :
    Calls Try.prog 34 #[] w fun e w' => e = .returned (.agg #[.nilFunc, .func (.func 45) #[] #[], .func (.func 46) #[] #[], .func (.func 47) #[] #[]]) ∧ Below w.heap.size w w' := by
  go_enter Try.func34, Try.ntmps34
  go_wp2
  refine bodyPost_ret (v := .agg #[.nilFunc, .func (.func 45) #[] #[], .func (.func 46) #[] #[], .func (.func 47) #[] #[]]) (by simp [results, Try.results34, go_sem]) rfl ⟨rfl, ?_⟩
  exact (Below.refl _ _).alloc (Nat.le_refl _) _

set_option maxRecDepth 100000 in
set_option maxHeartbeats 400000 in
theorem writeInt_any (B : Nat) (k n : Int) (s : ByteArray) (a : Option Addr) (cap len : Nat) (v : Value) (l : List UInt8) (w : World) (hn : I64 n) (hown : OwnB B w v l) (hl : l.length ≤ 10000000000000) (hB : B ≤ w.heap.size) :
    Calls Try.prog 45 #[v, .agg #[.int .i64 k, .int .i64 n, .string s, .slice a len cap]] w fun e w' => ∃ v', e = .returned v' ∧ OwnB B w' v' (l ++ numeral (zig n)) ∧ Grew w v w' v' := by
  have hzl := zig_le hn
  have HO := Lib.hid hown
  clear hown
  go_enter Try.func45, Try.ntmps45
  go_wp2_with (go_at_call 38; refine (codecUnsigned n hn _).mono ?_; rintro e w' ⟨rfl, rfl⟩)
  refine (appendNumeral_any B (zig n) v l _ (by omega) (HO.out.alloc _) hl (by simp; omega)).mono ?_
  rintro e w1 ⟨v', rfl, hown', hg⟩
  have HO' := Lib.hid hown'
  clear hown'
  go_wp2
  go_ret
  exact ⟨_, rfl, HO'.out, ((Grew.refl w v).alloc _).trans hg⟩

set_option maxRecDepth 100000 in
set_option maxHeartbeats 400000 in
theorem writeText_any (B : Nat) (k n : Int) (s : ByteArray) (a : Option Addr) (cap len : Nat) (v : Value) (l : List UInt8) (w : World) (hs : s.size ≤ 1000000000000) (hown : OwnB B w v l) (hl : l.length ≤ 10000000000000) (hB : B ≤ w.heap.size) :
    Calls Try.prog 46 #[v, .agg #[.int .i64 k, .int .i64 n, .string s, .slice a len cap]] w fun e w' => ∃ v', e = .returned v' ∧ OwnB B w' v' (l ++ numeral s.size ++ s.data.toList) ∧ Grew w v w' v' := by
  have hd := ndig_le s.size
  rw [← numeral_length] at hd
  have HO := Lib.hid hown
  have HN := Lib.hid hown.ne_new
  clear hown
  have hwr : IntKind.u64.wrap (s.size : Int) = (s.size : Int) := by rw [IntKind.wrap_u64]; omega
  have hsl : s.size ≤ 18446744073709551615 := by omega
  go_enter Try.func46, Try.ntmps46
  go_wp2_with fail
  go_region_held3 (fun w' => w'.cell? ⟨w.heap.size, 2, none⟩ = some (.string s) ∧ True)
    (first
      | exact ⟨hc2, trivial⟩
      | exact ⟨hc1, trivial⟩
      | exact ⟨by simp, trivial⟩)
    (first
      | (go_at_call 49
         refine (appendNumeral_any B s.size v l _ hsl (HO.out.alloc _).drew hl (le_alloc_drew hB _)).mono ?_
         rintro e w1 ⟨v', rfl, hown', hg⟩
         have hc1 : w1.cell? ⟨w.heap.size, 2, none⟩ = some (.string s) := by rw [hg.cell (lt_alloc_drew _ _) HN.out]; simp
         have hlt : w.heap.size < w1.heap.size := Nat.lt_of_lt_of_le (lt_alloc_drew _ _) hg.size
         have hsz1 : B ≤ w1.heap.size := by omega
         have hne := hg.ne HN.out (lt_alloc_drew _ _)
         have HO' := Lib.hid hown'
         have HG := Lib.hid (((Grew.refl w v).alloc _).drew.trans hg))
      | (refine step_appS (by rfl) _ _ (by rfl) B _ _ s (by rfl) HO'.out (by rfl) ?_ ?_ ?_
         · simp only [List.length_append]; omega
         · exact hsz1
         intro v'' w2 hown'' hg2
         have hc2 : w2.cell? ⟨w.heap.size, 2, none⟩ = some (.string s) := by
           rw [hg2.cell hlt hne]
           exact hc1
         have HO'' := Lib.hid hown''
         have HG2 := Lib.hid (HG.out.trans hg2)))
  go_wp2
  go_ret
  exact ⟨_, rfl, HO''.out, HG2.out⟩

/-- What write does to a value: the contract, as a statement on one size of values. -/
def WriteSaid (m : Nat) : Prop := ∀ (B : Nat) (k n : Int) (s : ByteArray) (a : Option Addr) (cap : Nat) (kids : VL) (v : Value) (l : List UInt8) (w : World), kids.sz ≤ m → (k = 1 ∨ k = 2 ∨ k = 3) → kids.wf = true → vsize k n s kids ≤ 1000000000000 → I64 n → s.size ≤ maxLen → RepS B w a cap kids → OwnB B w v l → l.length + vsize k n s kids ≤ 2000000000010 → B ≤ w.heap.size →
    Calls Try.prog 22 #[v, .agg #[.int .i64 k, .int .i64 n, .string s, .slice a kids.len cap]] w fun e w' => ∃ v', e = .returned v' ∧ OwnB B w' v' (l ++ venc k n s kids) ∧ Grew w v w' v'

set_option maxRecDepth 100000 in
set_option maxHeartbeats 400000 in
theorem writeList_any (m : Nat) (ih : WriteSaid m) (B : Nat) (k n : Int) (s : ByteArray) (a : Option Addr) (cap : Nat) (kids : VL) (v : Value) (l : List UInt8) (w : World) (hm : kids.sz ≤ m + 1) (hwf : kids.wf = true) (hsz : kids.size ≤ 1000000000000) (hr : RepS B w a cap kids) (hown : OwnB B w v l) (hl : l.length + ndig kids.len + kids.size ≤ 2000000000010) (hB : B ≤ w.heap.size) :
    Calls Try.prog 47 #[v, .agg #[.int .i64 k, .int .i64 n, .string s, .slice a kids.len cap]] w fun e w' => ∃ v', e = .returned v' ∧ OwnB B w' v' (l ++ numeral kids.len ++ kids.enc) ∧ Grew w v w' v' := by
  have hll := hr.1
  obtain ⟨b, o, hf, HA⟩ := hr.at
  clear hr
  unfold maxLen at hll
  have hlk : kids.len ≤ 1000000000000 := by
    have : ∀ f : VL, f.len ≤ f.size := by
      intro f; induction f with
      | nil => simp [VL.len]
      | cons k n s kids r _ h => rw [VL.size_cons]; simp only [VL.len, vsize]; split <;> (try split) <;> omega
    have := this kids; omega
  have HO := Lib.hid hown
  have HN := Lib.hid hown.ne_new
  clear hown
  obtain ⟨tot, HT⟩ : ∃ t, Hid (t = l ++ numeral kids.len ++ kids.enc) := ⟨l ++ numeral kids.len ++ kids.enc, Lib.hid rfl⟩
  have htl : tot.length ≤ 2000000000010 := by have := HT.out; rw [this]; simp only [List.length_append, VL.enc_length, numeral_length]; omega
  go_enter Try.func47, Try.ntmps47
  go_wp2_with fail
  refine (appendNumeral_any B kids.len v l _ (by omega) (HO.out.alloc _) (by omega) (by simp; omega)).mono ?_
  rintro e w1 ⟨v1, rfl, hown1, hg1⟩
  have HG : Hid (Grew w v w1 v1) := ((Grew.refl w v).alloc _).trans hg1
  have c3 : w1.cell? ⟨w.heap.size, 3, none⟩ = some (.slice a kids.len cap) := by rw [hg1.cell (by simp) HN.out]; simp
  have HO1 := Lib.hid hown1
  have hb1 : Below B w w1 := HG.out.below HO.out.base hB
  clear hown1 hg1
  go_wp2_with fail
  go_loopw [16, 0] (fun i x wr => ∃ (j : Nat) (l' : List UInt8) (r : VL), i = .int .i64 j ∧ OwnB B wr x l' ∧ j + r.len = kids.len ∧ r.sz ≤ m + 1 ∧ r.wf = true ∧ RepL B wr b (o + j * 4) r ∧ Hid (l' ++ r.enc = tot) ∧ r.size ≤ 1000000000000 ∧ Grew w v wr x) (fun i _ _ => kids.len - (intOf i).toNat)
  case atStart => exact ⟨0, _, kids, rfl, HO1.out, by omega, hm, hwf, by simpa using hf.below hb1 _ _ _, HT.out.symm, hsz, HG.out⟩
  case round =>
    obtain ⟨j, l', r, rfl, hown, hj, hm', hwr, hr, HW, hrs, hg⟩ := hrel
    have hll : l'.length + r.size ≤ 2000000000010 := by have := congrArg List.length HW.out; rw [List.length_append, VL.enc_length] at this; omega
    cases r with
    | nil =>
      have : j = kids.len := by simpa [VL.len] using hj
      have HO2 := Lib.hid hown
      have HG2 := Lib.hid hg
      clear hown hg
      go_wp2
      go_ret
      have h1 := HW.out
      rw [show VL.nil.enc = [] from rfl, List.append_nil] at h1
      exact ⟨_, rfl, by rw [← HT.out, ← h1]; exact HO2.out, HG2.out⟩
    | cons k' n' s' kids' r' =>
      rw [VL.size_cons] at hrs hll
      rw [VL.wf_cons, Bool.and_eq_true] at hwr
      have hk' : k' = 1 ∨ k' = 2 ∨ k' = 3 := by
        by_cases h1 : k' = 1
        · exact .inl h1
        · by_cases h2 : k' = 2
          · exact .inr (.inl h2)
          · by_cases h3 : k' = 3
            · exact .inr (.inr h3)
            · have := hwr.1; simp [vwf, h1, h2, h3] at this
      have hkw : kids'.wf = true := by
        have h := hwr.1
        rcases hk' with rfl | rfl | rfl
        · simp [vwf] at h; cases kids' <;> simp_all [VL.isNil, VL.wf]
        · simp [vwf] at h; cases kids' <;> simp_all [VL.isNil, VL.wf]
        · simp [vwf] at h; exact h.1
      simp only [VL.len] at hj
      have hlt : j < kids.len := by omega
      have ha : a = some ⟨b, o, none⟩ := by
        rcases HA.out with h | h
        · rw [h] at hlt; simp [VL.len] at hlt
        · exact h
      subst ha
      obtain ⟨q0, q1, q2, q3, q4, q5, q6, ⟨a', cap', q7, q8⟩, q9⟩ := hr
      simp only [VL.sz] at hm'
      have := kids'.sz_pos
      have := r'.sz_pos
      have hBr : B ≤ wr.heap.size := by have := hg.size; omega
      have HS : RepS B wr a' cap' kids' := q8
      have HM : Hid (RepL B wr b (o + j * 4 + 4) r') := q9
      have hvn : vsize k' n' s' kids' ≤ 1000000000000 := by omega
      have HL : Hid (l'.length + vsize k' n' s' kids' ≤ 2000000000010) := by show _ ≤ _; omega
      have HK := Lib.hid hk'
      have HR := Lib.hid hwr.2
      have HO2 := Lib.hid hown
      have HG2 := Lib.hid hg
      clear q8 q9 hk' hwr hown hg
      go_wp2_with fail
      refine (ih B k' n' s' a' cap' kids' _ l' _ (by omega) HK.out hkw hvn q2 q3 (HS.below ((Below.refl _ _).alloc hBr _)) (HO2.out.alloc _) HL.out (by simp; omega)).mono ?_
      rintro e w2 ⟨v2, rfl, hown2, hg2⟩
      have HO3 := Lib.hid hown2
      have HG3 : Hid (Grew w v w2 v2) := (HG2.out.alloc _).trans hg2
      have hb2 : Below B wr w2 := ((Below.refl _ _).alloc hBr _).trans (hg2.below HO2.out.base (by simp; omega))
      clear hown2 hg2
      go_wp2
      go_roundw
      case rel =>
        refine ⟨j + 1, l' ++ venc k' n' s' kids', r', by go_num, HO3.out, by omega, by omega, HR.out, ?_, ?_, by omega, HG3.out⟩
        · have := HM.out.below hb2
          rw [show o + (j + 1) * 4 = o + j * 4 + 4 from by omega]; exact this
        · show _ = _
          have := HW.out
          rw [VL.enc_cons] at this
          rw [List.append_assoc]; exact this
      case measure => simp [intOf]; omega

set_option maxRecDepth 100000 in
set_option maxHeartbeats 800000 in
theorem write1 (B : Nat) (n : Int) (s : ByteArray) (a : Option Addr) (cap : Nat) (kids : VL) (v : Value) (l : List UInt8) (w : World) (hown : OwnB B w v l) (hl : l.length ≤ 2000000000010) (hB : B ≤ w.heap.size) (out : List UInt8)
    (hc : ∀ (v' : Value) (w' : World), OwnB B w' v' (l ++ [1]) → Below B w w' → Calls Try.prog 45 #[v', .agg #[.int .i64 1, .int .i64 n, .string s, .slice a kids.len cap]] w' fun e w'' => ∃ v'', e = .returned v'' ∧ OwnB B w'' v'' out ∧ Grew w' v' w'' v'') :
    Calls Try.prog 22 #[v, .agg #[.int .i64 1, .int .i64 n, .string s, .slice a kids.len cap]] w fun e w' => ∃ v', e = .returned v' ∧ OwnB B w' v' out ∧ Grew w v w' v' := by
  have HO := Lib.hid hown
  have HN := Lib.hid hown.ne_new
  have HC := Lib.hid hc
  clear hown hc
  have hix : ∀ w, (Instr.index 55 (.agg #[.nilFunc, .func (.func 45) #[] #[], .func (.func 46) #[] #[], .func (.func 47) #[] #[]]) (.int .i64 1)).run Try.prog w = .ok (.func (.func 45) #[] #[]) w := fun _ => by kernel_rfl
  go_enter Try.func22, Try.ntmps22
  go_wp2_with fail
  go_region_held3 (fun w' => w'.cell? ⟨w.heap.size, 0, none⟩ = some (.int .i64 1) ∧ w'.cell? ⟨w.heap.size, 1, none⟩ = some (.int .i64 n) ∧ w'.cell? ⟨w.heap.size, 2, none⟩ = some (.string s) ∧ w'.cell? ⟨w.heap.size, 3, none⟩ = some (.slice a kids.len cap))
    (first
      | exact hq3
      | exact hq2
      | exact box4 (hb0.alloc hz0 _)
      | exact box4 hb0
      | exact ⟨by simp, by simp, by simp, by simp⟩)
    (first
      | (go_at_call 34
         refine (writers_any _).mono ?_
         rintro e w1 ⟨rfl, hb1⟩
         first
           | (have hO1 := Lib.hid (OwnB.below ((HO.out.alloc _).drew) hb1)
              have hb0 := Below.trans (((Below.refl (w.heap.size + 1) (w.alloc (.cells #[.int .i64 1, .int .i64 n, .string s, .slice a kids.len cap] 24))).drew)) (hb1.mono (by simp)))
           | (have hO1 := Lib.hid (OwnB.below (((HO.out.alloc _).alloc _).drew) hb1)
              have hb0 := Below.trans ((((Below.refl (w.heap.size + 1) (w.alloc (.cells #[.int .i64 1, .int .i64 n, .string s, .slice a kids.len cap] 24))).alloc (by simp) _).drew)) (hb1.mono (by simp)))
         have hz0 : w.heap.size + 1 ≤ w1.heap.size := by simpa using hb0.size)
      | (have hcell : w1.cell? ⟨w.heap.size + 1, 0, none⟩ = some (bv 1) := by rw [hb1.cell (by simp)]; simp; rfl
         refine step_appB (by rfl) _ _ (by rfl) B _ l [1] _ _ (by rfl) hO1.out (by rfl) (RdB.one hcell) (fun h => by cases h) ?_ ?_ ?_
         · simp only [List.length_singleton]; omega
         · omega
         intro v2 w2 hown2 hg2
         have hq2 := box4_grew hg2 hz0 HN.out (box4 hb0)
         have hz2 := Nat.le_trans hz0 hg2.size
         have hn2 := hg2.ne HN.out hz0
         have HO2 := Lib.hid hown2
         have HG2 := Lib.hid ((Grew.of_below v (below_start hb0)).trans hg2))
      | (have hcell : (w1.alloc (.cells #[.int .u8 1] 5)).cell? ⟨w1.heap.size, 0, none⟩ = some (bv 1) := by simp; rfl
         refine step_appB (by rfl) _ _ (by rfl) B _ l [1] _ _ (by rfl) (hO1.out.alloc _) (by rfl) (RdB.one hcell) (fun h => by cases h) ?_ ?_ ?_
         · simp only [List.length_singleton]; omega
         · simp; omega
         intro v2 w2 hown2 hg2
         have hq2 := box4_grew hg2 (Nat.lt_of_lt_of_le hz0 (Nat.le_of_lt (lt_alloc _ _))) HN.out (box4 (hb0.alloc hz0 _))
         have hz2 := Nat.le_trans (Nat.le_trans hz0 (Nat.le_of_lt (lt_alloc _ _))) hg2.size
         have hn2 := hg2.ne HN.out (Nat.lt_of_lt_of_le hz0 (Nat.le_of_lt (lt_alloc _ _)))
         have HO2 := Lib.hid hown2
         have HG2 := Lib.hid (((Grew.of_below v (below_start hb0)).alloc _).trans hg2))
      | (go_at_call 45
         refine (HC.out _ _ HO2.out (HG2.out.below HO.out.base hB)).mono ?_
         rintro e w3 ⟨v3, rfl, hown3, hg3⟩
         have hq3 := box4_grew hg3 hz2 hn2 hq2
         have HO3 := Lib.hid hown3
         have HG3 := Lib.hid (HG2.out.trans hg3)))
  all_goals
    go_wp2
    go_ret
    exact ⟨_, rfl, HO3.out, HG3.out⟩

set_option maxRecDepth 100000 in
set_option maxHeartbeats 800000 in
theorem write2 (B : Nat) (n : Int) (s : ByteArray) (a : Option Addr) (cap : Nat) (kids : VL) (v : Value) (l : List UInt8) (w : World) (hown : OwnB B w v l) (hl : l.length ≤ 2000000000010) (hB : B ≤ w.heap.size) (out : List UInt8)
    (hc : ∀ (v' : Value) (w' : World), OwnB B w' v' (l ++ [2]) → Below B w w' → Calls Try.prog 46 #[v', .agg #[.int .i64 2, .int .i64 n, .string s, .slice a kids.len cap]] w' fun e w'' => ∃ v'', e = .returned v'' ∧ OwnB B w'' v'' out ∧ Grew w' v' w'' v'') :
    Calls Try.prog 22 #[v, .agg #[.int .i64 2, .int .i64 n, .string s, .slice a kids.len cap]] w fun e w' => ∃ v', e = .returned v' ∧ OwnB B w' v' out ∧ Grew w v w' v' := by
  have HO := Lib.hid hown
  have HN := Lib.hid hown.ne_new
  have HC := Lib.hid hc
  clear hown hc
  have hix : ∀ w, (Instr.index 55 (.agg #[.nilFunc, .func (.func 45) #[] #[], .func (.func 46) #[] #[], .func (.func 47) #[] #[]]) (.int .i64 2)).run Try.prog w = .ok (.func (.func 46) #[] #[]) w := fun _ => by kernel_rfl
  go_enter Try.func22, Try.ntmps22
  go_wp2_with fail
  go_region_held3 (fun w' => w'.cell? ⟨w.heap.size, 0, none⟩ = some (.int .i64 2) ∧ w'.cell? ⟨w.heap.size, 1, none⟩ = some (.int .i64 n) ∧ w'.cell? ⟨w.heap.size, 2, none⟩ = some (.string s) ∧ w'.cell? ⟨w.heap.size, 3, none⟩ = some (.slice a kids.len cap))
    (first
      | exact hq3
      | exact hq2
      | exact box4 (hb0.alloc hz0 _)
      | exact box4 hb0
      | exact ⟨by simp, by simp, by simp, by simp⟩)
    (first
      | (go_at_call 34
         refine (writers_any _).mono ?_
         rintro e w1 ⟨rfl, hb1⟩
         first
           | (have hO1 := Lib.hid (OwnB.below ((HO.out.alloc _).drew) hb1)
              have hb0 := Below.trans (((Below.refl (w.heap.size + 1) (w.alloc (.cells #[.int .i64 2, .int .i64 n, .string s, .slice a kids.len cap] 24))).drew)) (hb1.mono (by simp)))
           | (have hO1 := Lib.hid (OwnB.below (((HO.out.alloc _).alloc _).drew) hb1)
              have hb0 := Below.trans ((((Below.refl (w.heap.size + 1) (w.alloc (.cells #[.int .i64 2, .int .i64 n, .string s, .slice a kids.len cap] 24))).alloc (by simp) _).drew)) (hb1.mono (by simp)))
         have hz0 : w.heap.size + 1 ≤ w1.heap.size := by simpa using hb0.size)
      | (have hcell : w1.cell? ⟨w.heap.size + 1, 0, none⟩ = some (bv 2) := by rw [hb1.cell (by simp)]; simp; rfl
         refine step_appB (by rfl) _ _ (by rfl) B _ l [2] _ _ (by rfl) hO1.out (by rfl) (RdB.one hcell) (fun h => by cases h) ?_ ?_ ?_
         · simp only [List.length_singleton]; omega
         · omega
         intro v2 w2 hown2 hg2
         have hq2 := box4_grew hg2 hz0 HN.out (box4 hb0)
         have hz2 := Nat.le_trans hz0 hg2.size
         have hn2 := hg2.ne HN.out hz0
         have HO2 := Lib.hid hown2
         have HG2 := Lib.hid ((Grew.of_below v (below_start hb0)).trans hg2))
      | (have hcell : (w1.alloc (.cells #[.int .u8 2] 5)).cell? ⟨w1.heap.size, 0, none⟩ = some (bv 2) := by simp; rfl
         refine step_appB (by rfl) _ _ (by rfl) B _ l [2] _ _ (by rfl) (hO1.out.alloc _) (by rfl) (RdB.one hcell) (fun h => by cases h) ?_ ?_ ?_
         · simp only [List.length_singleton]; omega
         · simp; omega
         intro v2 w2 hown2 hg2
         have hq2 := box4_grew hg2 (Nat.lt_of_lt_of_le hz0 (Nat.le_of_lt (lt_alloc _ _))) HN.out (box4 (hb0.alloc hz0 _))
         have hz2 := Nat.le_trans (Nat.le_trans hz0 (Nat.le_of_lt (lt_alloc _ _))) hg2.size
         have hn2 := hg2.ne HN.out (Nat.lt_of_lt_of_le hz0 (Nat.le_of_lt (lt_alloc _ _)))
         have HO2 := Lib.hid hown2
         have HG2 := Lib.hid (((Grew.of_below v (below_start hb0)).alloc _).trans hg2))
      | (go_at_call 46
         refine (HC.out _ _ HO2.out (HG2.out.below HO.out.base hB)).mono ?_
         rintro e w3 ⟨v3, rfl, hown3, hg3⟩
         have hq3 := box4_grew hg3 hz2 hn2 hq2
         have HO3 := Lib.hid hown3
         have HG3 := Lib.hid (HG2.out.trans hg3)))
  all_goals
    go_wp2
    go_ret
    exact ⟨_, rfl, HO3.out, HG3.out⟩

set_option maxRecDepth 100000 in
set_option maxHeartbeats 800000 in
theorem write3 (B : Nat) (n : Int) (s : ByteArray) (a : Option Addr) (cap : Nat) (kids : VL) (v : Value) (l : List UInt8) (w : World) (hown : OwnB B w v l) (hl : l.length ≤ 2000000000010) (hB : B ≤ w.heap.size) (out : List UInt8)
    (hc : ∀ (v' : Value) (w' : World), OwnB B w' v' (l ++ [3]) → Below B w w' → Calls Try.prog 47 #[v', .agg #[.int .i64 3, .int .i64 n, .string s, .slice a kids.len cap]] w' fun e w'' => ∃ v'', e = .returned v'' ∧ OwnB B w'' v'' out ∧ Grew w' v' w'' v'') :
    Calls Try.prog 22 #[v, .agg #[.int .i64 3, .int .i64 n, .string s, .slice a kids.len cap]] w fun e w' => ∃ v', e = .returned v' ∧ OwnB B w' v' out ∧ Grew w v w' v' := by
  have HO := Lib.hid hown
  have HN := Lib.hid hown.ne_new
  have HC := Lib.hid hc
  clear hown hc
  have hix : ∀ w, (Instr.index 55 (.agg #[.nilFunc, .func (.func 45) #[] #[], .func (.func 46) #[] #[], .func (.func 47) #[] #[]]) (.int .i64 3)).run Try.prog w = .ok (.func (.func 47) #[] #[]) w := fun _ => by kernel_rfl
  go_enter Try.func22, Try.ntmps22
  go_wp2_with fail
  go_region_held3 (fun w' => w'.cell? ⟨w.heap.size, 0, none⟩ = some (.int .i64 3) ∧ w'.cell? ⟨w.heap.size, 1, none⟩ = some (.int .i64 n) ∧ w'.cell? ⟨w.heap.size, 2, none⟩ = some (.string s) ∧ w'.cell? ⟨w.heap.size, 3, none⟩ = some (.slice a kids.len cap))
    (first
      | exact hq3
      | exact hq2
      | exact box4 (hb0.alloc hz0 _)
      | exact box4 hb0
      | exact ⟨by simp, by simp, by simp, by simp⟩)
    (first
      | (go_at_call 34
         refine (writers_any _).mono ?_
         rintro e w1 ⟨rfl, hb1⟩
         first
           | (have hO1 := Lib.hid (OwnB.below ((HO.out.alloc _).drew) hb1)
              have hb0 := Below.trans (((Below.refl (w.heap.size + 1) (w.alloc (.cells #[.int .i64 3, .int .i64 n, .string s, .slice a kids.len cap] 24))).drew)) (hb1.mono (by simp)))
           | (have hO1 := Lib.hid (OwnB.below (((HO.out.alloc _).alloc _).drew) hb1)
              have hb0 := Below.trans ((((Below.refl (w.heap.size + 1) (w.alloc (.cells #[.int .i64 3, .int .i64 n, .string s, .slice a kids.len cap] 24))).alloc (by simp) _).drew)) (hb1.mono (by simp)))
         have hz0 : w.heap.size + 1 ≤ w1.heap.size := by simpa using hb0.size)
      | (have hcell : w1.cell? ⟨w.heap.size + 1, 0, none⟩ = some (bv 3) := by rw [hb1.cell (by simp)]; simp; rfl
         refine step_appB (by rfl) _ _ (by rfl) B _ l [3] _ _ (by rfl) hO1.out (by rfl) (RdB.one hcell) (fun h => by cases h) ?_ ?_ ?_
         · simp only [List.length_singleton]; omega
         · omega
         intro v2 w2 hown2 hg2
         have hq2 := box4_grew hg2 hz0 HN.out (box4 hb0)
         have hz2 := Nat.le_trans hz0 hg2.size
         have hn2 := hg2.ne HN.out hz0
         have HO2 := Lib.hid hown2
         have HG2 := Lib.hid ((Grew.of_below v (below_start hb0)).trans hg2))
      | (have hcell : (w1.alloc (.cells #[.int .u8 3] 5)).cell? ⟨w1.heap.size, 0, none⟩ = some (bv 3) := by simp; rfl
         refine step_appB (by rfl) _ _ (by rfl) B _ l [3] _ _ (by rfl) (hO1.out.alloc _) (by rfl) (RdB.one hcell) (fun h => by cases h) ?_ ?_ ?_
         · simp only [List.length_singleton]; omega
         · simp; omega
         intro v2 w2 hown2 hg2
         have hq2 := box4_grew hg2 (Nat.lt_of_lt_of_le hz0 (Nat.le_of_lt (lt_alloc _ _))) HN.out (box4 (hb0.alloc hz0 _))
         have hz2 := Nat.le_trans (Nat.le_trans hz0 (Nat.le_of_lt (lt_alloc _ _))) hg2.size
         have hn2 := hg2.ne HN.out (Nat.lt_of_lt_of_le hz0 (Nat.le_of_lt (lt_alloc _ _)))
         have HO2 := Lib.hid hown2
         have HG2 := Lib.hid (((Grew.of_below v (below_start hb0)).alloc _).trans hg2))
      | (go_at_call 47
         refine (HC.out _ _ HO2.out (HG2.out.below HO.out.base hB)).mono ?_
         rintro e w3 ⟨v3, rfl, hown3, hg3⟩
         have hq3 := box4_grew hg3 hz2 hn2 hq2
         have HO3 := Lib.hid hown3
         have HG3 := Lib.hid (HG2.out.trans hg3)))
  all_goals
    go_wp2
    go_ret
    exact ⟨_, rfl, HO3.out, HG3.out⟩


/-- write appends the encoding. -/
theorem write_any (m : Nat) : WriteSaid m := by
  induction m with
  | zero => intro B k n s a cap kids v l w hm; have := kids.sz_pos; omega
  | succ m ih =>
  intro B k n s a cap kids v l w hm hk hwf hv hn hs hr hown hl hB
  rcases hk with rfl | rfl | rfl
  · refine write1 B n s a cap kids v l w hown (by omega) hB _ fun v' w' h1 h2 => ?_
    refine (writeInt_any B 1 n s a cap kids.len v' _ w' hn h1 (by simp; omega) (by have := h2.size; omega)).mono ?_
    rintro e w'' ⟨v'', rfl, h3, h4⟩
    exact ⟨v'', rfl, by rw [show venc 1 n s kids = [1] ++ numeral (zig n) from rfl, ← List.append_assoc]; exact h3, h4⟩
  · have hs2 : s.size ≤ 1000000000000 := by simp [vsize] at hv; omega
    refine write2 B n s a cap kids v l w hown (by omega) hB _ fun v' w' h1 h2 => ?_
    refine (writeText_any B 2 n s a cap kids.len v' _ w' hs2 h1 (by simp; omega) (by have := h2.size; omega)).mono ?_
    rintro e w'' ⟨v'', rfl, h3, h4⟩
    exact ⟨v'', rfl, by rw [show venc 2 n s kids = [2] ++ (numeral s.size ++ s.data.toList) from rfl, ← List.append_assoc, ← List.append_assoc]; exact h3, h4⟩
  · have hv' : vsize 3 n s kids = 1 + ndig kids.len + kids.size := rfl
    refine write3 B n s a cap kids v l w hown (by omega) hB _ fun v' w' h1 h2 => ?_
    refine (writeList_any m ih B 3 n s a cap kids v' _ w' hm hwf (by omega) (hr.below h2) h1 (by simp; omega) (by have := h2.size; omega)).mono ?_
    rintro e w'' ⟨v'', rfl, h3, h4⟩
    exact ⟨v'', rfl, by rw [show venc 3 n s kids = [3] ++ (numeral kids.len ++ kids.enc) from rfl, ← List.append_assoc, ← List.append_assoc]; exact h3, h4⟩
end Go.Proofs.Ytihllbblehjhlaa
