/-
  Contract of encode (the reference).
-/
import Derived.Test.YtihllbblehjhlaaEnc
namespace Go.Proofs.Ytihllbblehjhlaa
open Go.RowKit

theorem venc1 (n : Int) (s : ByteArray) (kids : VL) : venc 1 n s kids = [1] ++ numeral (zig n) := rfl
theorem venc2 (n : Int) (s : ByteArray) (kids : VL) : venc 2 n s kids = [2] ++ numeral s.size ++ s.data.toList := by simp [venc]
theorem venc3 {k : Int} (h1 : ¬ k = 1) (h2 : ¬ k = 2) (n : Int) (s : ByteArray) (kids : VL) : venc k n s kids = [3] ++ numeral kids.len ++ kids.enc := by simp [venc, h1, h2]
/-- A contract's post, kept from the walk. -/
def RetB (B : Nat) (w : World) (l : List UInt8) (e : Ending) (w' : World) : Prop := ∃ v, e = .returned v ∧ OwnB w.heap.size w' v l ∧ Below w.heap.size w w'

set_option maxRecDepth 100000 in
set_option maxHeartbeats 400000 in
theorem refEncode1 (n : Int) (s : ByteArray) (a : Option Addr) (cap : Nat) (kids : VL) (w : World) (hn : I64 n) :
    Calls Try.prog 23 #[.agg #[.int .i64 1, .int .i64 n, .string s, .slice a kids.len cap]] w fun e w' => ∃ v, e = .returned v ∧ OwnB w.heap.size w' v (venc 1 n s kids) ∧ Below w.heap.size w w' := by
  have hzl := zig_le hn
  have hd := ndig_le (zig n)
  rw [← numeral_length] at hd
  have HP : Hid (zig n < 128 ^ (9 + 1)) := by show _ < _; omega
  go_enter Try.func23, Try.ntmps23
  go_wp2_with (go_at_call 36; refine (refUnsigned n hn _).mono ?_; rintro e w' ⟨rfl, rfl⟩)
  refine (refNumeral 9 (zig n) _ (by omega) HP.out (by omega)).mono ?_
  rintro e w1 ⟨v, rfl, hown, hb⟩
  obtain ⟨a', cap', rfl, hfm, hrd⟩ := hown.form
  have hw1 : w.heap.size + 2 ≤ w1.heap.size := by simpa using hb.size
  have h0 : OwnB w.heap.size w1 (.slice (some ⟨w.heap.size + 1, 0, none⟩) 1 1) [1] := by
    have := OwnB.built' (B := w.heap.size) (w := w.alloc (.cells #[.int .i64 1, .int .i64 n, .string s, .slice a kids.len cap] 24)) 1 (w.heap.size + 1) (by simp) (by simp)
    exact this.below hb
  have HF := Lib.hid hfm
  clear hfm
  have hb0 : Below w.heap.size w w1 := (((Below.refl _ _).alloc (Nat.le_refl _) _).alloc (by simp) _).trans (hb.mono (by simp; omega))
  go_wp2_with (at_builtin; refine wpList_appB rfl _ _ rfl w.heap.size _ _ _ _ _ rfl h0 rfl hrd ?c1 ?c2 ?c3 ?_)
  case c1 => intro h; rcases HF.out with h1 | ⟨g, h1, _⟩ <;> simp_all
  case c2 => have := hd; simp only [numeral] at this; simp; omega
  case c3 => omega
  intro v' w2 hown' hb2
  have hb2 := hb2.below h0.base (by omega)
  have HH := Lib.hid hown'
  clear hown'
  go_wp2
  go_ret
  exact ⟨_, rfl, by rw [venc1]; exact HH.out, hb0.trans hb2⟩

set_option maxRecDepth 100000 in
set_option maxHeartbeats 400000 in
theorem refEncode2 (n : Int) (s : ByteArray) (a : Option Addr) (cap : Nat) (kids : VL) (w : World) (hn : I64 n) (hs : s.size ≤ 1000000000000) :
    Calls Try.prog 23 #[.agg #[.int .i64 2, .int .i64 n, .string s, .slice a kids.len cap]] w fun e w' => ∃ v, e = .returned v ∧ OwnB w.heap.size w' v (venc 2 n s kids) ∧ Below w.heap.size w w' := by
  have hd := ndig_le s.size
  rw [← numeral_length] at hd
  have HP : Hid (s.size < 128 ^ (9 + 1)) := by show _ < _; omega
  go_enter Try.func23, Try.ntmps23
  have hwr : IntKind.u64.wrap (s.size : Int) = (s.size : Int) := by rw [IntKind.wrap_u64]; omega
  have hss : s.data.toList.length = s.size := Array.length_toList
  have HS := Lib.hid hss
  clear hss
  go_wp2_with fail
  go_region_held3 (fun w' => w'.cell? ⟨w.heap.size, 2, none⟩ = some (.string s) ∧ Below (w.heap.size + 1) (w.alloc (.cells #[.int .i64 2, .int .i64 n, .string s, .slice a kids.len cap] 24)) w')
    (first
      | exact ⟨hc3, hB3⟩
      | exact ⟨hc2, hB2⟩
      | exact ⟨by rw [World.cell?_alloc_past _ _ _ (by omega)]; exact hc1, hB1.alloc (by omega) _⟩
      | exact ⟨hc1, hB1⟩
      | exact ⟨by simp, (Below.refl _ _).drew⟩
      | exact ⟨by simp, ((Below.refl _ _).alloc (by simp) _).drew⟩)
    (first
      | (go_at_call 35
         refine (refNumeral 9 _ _ (by omega) HP.out (by omega)).mono ?_
         rintro e w1 ⟨v, rfl, hown, hb⟩
         obtain ⟨a', cap', rfl, hfm, hrd⟩ := hown.form
         have HF : Hid (a' = none → cap' = 0) := by
           show _ → _
           intro h; rcases hfm with h1 | ⟨g, h1, _⟩ <;> simp_all
         clear hfm
         have hB1 : Below (w.heap.size + 1) (w.alloc (.cells #[.int .i64 2, .int .i64 n, .string s, .slice a kids.len cap] 24)) w1 := by
           first
             | exact (((Below.refl _ _).alloc (by simp) _).drew).trans (hb.mono (by simp))
             | exact ((Below.refl _ _).drew).trans (hb.mono (by simp))
         have hc1 : w1.cell? ⟨w.heap.size, 2, none⟩ = some (.string s) := by rw [hB1.cell (by simp)]; simp
         have hz1 : w.heap.size + 1 ≤ w1.heap.size := by simpa using hB1.size
         have HO : Hid (OwnB (w.heap.size + 1) w1 (.slice a' (numF 9 s.size).length cap') (numF 9 s.size)) := hown.mono (by simp))
      | (have h0 : OwnB (w.heap.size + 1) w1 (.slice (some ⟨w.heap.size + 1, 0, none⟩) 1 1) [2] := OwnB.below (OwnB.built' (w := (w.alloc (.cells #[.int .i64 2, .int .i64 n, .string s, .slice a kids.len cap] 24))) 2 (w.heap.size + 1) (by simp) (by simp)).drew hb
         refine step_appB (by rfl) _ _ (by rfl) (w.heap.size + 1) _ [2] _ _ _ (by rfl) h0 (by rfl) (hrd.mono (by simp)) HF.out ?_ ?_ ?_
         · simp only [List.length_singleton]; have := hd; simp only [numeral] at this; omega
         · first | omega | (simp; omega)
         intro v' w2 hown' hb2
         have hB2 : Below (w.heap.size + 1) (w.alloc (.cells #[.int .i64 2, .int .i64 n, .string s, .slice a kids.len cap] 24)) w2 := hB1.trans (hb2.below h0.base hz1)
         have hc2 : w2.cell? ⟨w.heap.size, 2, none⟩ = some (.string s) := by rw [hB2.cell (by simp)]; simp
         have HO2 := Lib.hid hown')
      | (have h0 : OwnB (w.heap.size + 1) (w1.alloc (.cells #[bv 2] 5)) (.slice (some ⟨w1.heap.size, 0, none⟩) 1 1) [2] := OwnB.built' 2 _ rfl hz1
         refine step_appB (by rfl) _ _ (by rfl) (w.heap.size + 1) _ [2] _ _ _ (by rfl) h0 (by rfl) ((hrd.below ((Below.refl _ _).alloc (Nat.le_refl _) _)).mono (by simp)) HF.out ?_ ?_ ?_
         · simp only [List.length_singleton]; have := hd; simp only [numeral] at this; omega
         · first | omega | (simp; omega)
         intro v' w2 hown' hb2
         have hB2 : Below (w.heap.size + 1) (w.alloc (.cells #[.int .i64 2, .int .i64 n, .string s, .slice a kids.len cap] 24)) w2 := (hB1.alloc hz1 _).trans (hb2.below h0.base (by simp; omega))
         have hc2 : w2.cell? ⟨w.heap.size, 2, none⟩ = some (.string s) := by rw [hB2.cell (by simp)]; simp
         have HO2 := Lib.hid hown')
      | (refine step_appS (by rfl) _ _ (by rfl) (w.heap.size + 1) _ _ s (by rfl) HO2.out (by rfl) ?_ ?_ ?_
         · have := hd; simp only [numeral] at this; simp only [List.length_append, List.length_singleton]; omega
         · have := hB2.size; simp at this; omega
         intro v'' w3 hown'' hb3
         have hB3 : Below (w.heap.size + 1) (w.alloc (.cells #[.int .i64 2, .int .i64 n, .string s, .slice a kids.len cap] 24)) w3 := hB2.trans (hb3.below HO2.out.base (by have := hB2.size; simp at this; omega))
         have hc3 : w3.cell? ⟨w.heap.size, 2, none⟩ = some (.string s) := by rw [hB3.cell (by simp)]; simp
         have HO3 := Lib.hid hown''))
  all_goals
    go_wp2
    go_ret
    exact ⟨_, rfl, by rw [venc2]; exact HO3.out.mono (by omega), below_start hB3⟩

set_option maxRecDepth 100000 in
set_option maxHeartbeats 400000 in
theorem refEncode (m : Nat) : ∀ (B : Nat) (k n : Int) (s : ByteArray) (a : Option Addr) (cap : Nat) (kids : VL) (w : World), kids.sz ≤ m → vsize k n s kids ≤ 1000000000000 → I64 k → I64 n → s.size ≤ maxLen → RepS B w a cap kids → B ≤ w.heap.size →
    Calls Try.prog 23 #[.agg #[.int .i64 k, .int .i64 n, .string s, .slice a kids.len cap]] w fun e w' => ∃ v, e = .returned v ∧ OwnB w.heap.size w' v (venc k n s kids) ∧ Below w.heap.size w w' := by
  induction m with
  | zero => intro B k n s a cap kids w hm; have := kids.sz_pos; omega
  | succ m ih =>
  intro B k n s a cap kids w hm hv hk hn hs hr hB
  by_cases h1 : k = 1
  · subst h1
    exact refEncode1 n s a cap kids w hn
  by_cases h2 : k = 2
  · subst h2
    refine refEncode2 n s a cap kids w hn ?_
    simp [vsize] at hv; omega
  have hvs : vsize k n s kids = 1 + ndig kids.len + kids.size := by simp [vsize, h1, h2]
  have HE : Hid (venc k n s kids = [3] ++ numeral kids.len ++ kids.enc) := venc3 h1 h2 n s kids
  have hd := ndig_le kids.len
  rw [← numeral_length] at hd
  have hl := hr.1
  obtain ⟨b, o, hf, HA⟩ := hr.at
  clear hr
  unfold maxLen at hl
  have hsz : kids.size ≤ 1000000000000 := by omega
  clear hv hvs
  have HP : Hid (kids.len < 128 ^ (9 + 1)) := by show _ < _; omega
  have g1 : (k == 1) = false := by simpa using h1
  have g2 : (k == 2) = false := by simpa using h2
  go_enter Try.func23, Try.ntmps23
  go_wp2_with fail
  refine (refNumeral 9 kids.len _ (by omega) HP.out (by omega)).mono ?_
  rintro e w1 ⟨v, rfl, hown, hb⟩
  obtain ⟨a', cap', rfl, hfm, hrd⟩ := hown.form
  have HF : Hid (a' = none → cap' = 0) := by
    show _ → _
    intro h; rcases hfm with h1 | ⟨g, h1, _⟩ <;> simp_all
  clear hfm
  have hB1 : Below (w.heap.size + 1) (w.alloc (.cells #[.int .i64 k, .int .i64 n, .string s, .slice a kids.len cap] 24)) w1 := ((Below.refl _ _).alloc (by simp) _).trans (hb.mono (by simp))
  have hz1 : w.heap.size + 2 ≤ w1.heap.size := by simpa using hb.size
  have h0 : OwnB (w.heap.size + 1) w1 (.slice (some ⟨w.heap.size + 1, 0, none⟩) 1 1) [3] :=
    (OwnB.built' (w := w.alloc (.cells #[.int .i64 k, .int .i64 n, .string s, .slice a kids.len cap] 24)) 3 (w.heap.size + 1) (by simp) (by simp)).below hb
  go_wp2_with (at_builtin; refine wpList_appB rfl _ _ rfl (w.heap.size + 1) _ _ _ _ _ rfl h0 rfl hrd HF.out ?c2 ?c3 ?_)
  case c2 => have := hd; simp only [numeral] at this; simp only [List.length_singleton]; omega
  case c3 => omega
  intro v' w2 hown' hb2
  have hB2 := hB1.trans (hb2.below h0.base (by omega))
  clear hb2 hB1 hrd h0 hb hown hz1
  obtain ⟨tot, HT⟩ : ∃ t, Hid (t = [3] ++ numeral kids.len ++ kids.enc) := ⟨_, Lib.hid rfl⟩
  have htl : tot.length ≤ 2000000000000 := by have := HT.out; rw [this]; simp only [List.length_append, List.length_singleton, VL.enc_length]; omega
  have HH : Hid (OwnB (w.heap.size + 1) w2 v' ([3] ++ numeral kids.len)) := hown'
  clear hown'
  go_wp2
  go_loopw [4, 3] (fun i x wr => ∃ (j : Nat) (l : List UInt8) (r : VL), i = .int .i64 j ∧ OwnB (w.heap.size + 1) wr x l ∧ j + r.len = kids.len ∧ r.sz ≤ m + 1 ∧ RepL B wr b (o + j * 4) r ∧ Hid (l ++ r.enc = tot) ∧ r.size ≤ 1000000000000 ∧ Below (w.heap.size + 1) (w.alloc (.cells #[.int .i64 k, .int .i64 n, .string s, .slice a kids.len cap] 24)) wr) (fun i _ _ => kids.len - (intOf i).toNat)
  case atStart => exact ⟨0, _, kids, rfl, HH.out, by omega, hm, by simpa using hf.below (((Below.refl _ _).alloc hB _).trans (hB2.mono (by omega))) _ _ _, HT.out.symm, hsz, hB2⟩
  case round =>
    obtain ⟨j, l, r, rfl, hownL, hj, hm', hr, HW, hrs, hbr⟩ := hrel
    have hll : l.length ≤ 2000000000000 := by have := congrArg List.length HW.out; rw [List.length_append] at this; omega
    have c3 : wr.cell? ⟨w.heap.size, 3, none⟩ = some (.slice a kids.len cap) := by rw [hbr.cell (by simp)]; simp
    cases r with
    | nil =>
      have : j = kids.len := by simpa [VL.len] using hj
      have HO := Lib.hid hownL
      clear hownL
      go_wp2
      go_ret
      have h1 := HW.out
      rw [show VL.nil.enc = [] from rfl, List.append_nil] at h1
      exact ⟨_, rfl, by rw [HE.out, ← HT.out, ← h1]; exact HO.out.mono (by omega), below_start hbr⟩
    | cons k' n' s' kids' r' =>
      rw [VL.size_cons] at hrs
      simp only [VL.len] at hj
      have hlt : j < kids.len := by omega
      have ha : a = some ⟨b, o, none⟩ := by
        rcases HA.out with h | h
        · rw [h] at hlt; simp [VL.len] at hlt
        · exact h
      subst ha
      obtain ⟨q0, q1, q2, q3, q4, q5, q6, ⟨a', cap', q7, q8⟩, q9⟩ := hr
      simp only [VL.sz] at hm'
      have := kids'.sz_pos
      have := r'.sz_pos
      have hBw : w.heap.size + 1 ≤ wr.heap.size := by simpa using hbr.size
      have hBr : B ≤ wr.heap.size := by omega
      have HS : RepS B wr a' cap' kids' := q8
      have HM : Hid (RepL B wr b (o + j * 4 + 4) r') := q9
      have hvl := venc_length k' n' s' kids'
      have hvn : vsize k' n' s' kids' ≤ 1000000000000 := by omega
      clear q8 q9
      have HO := Lib.hid hownL
      clear hownL hvl
      go_wp2_with fail
      refine (ih B k' n' s' a' cap' kids' _ (by omega) hvn q1 q2 q3 HS hBr).mono ?_
      rintro e w1 ⟨v2, rfl, hown2, hb1⟩
      obtain ⟨a2, cap2, rfl, hfm2, hrd2⟩ := hown2.form
      have HF2 : Hid (a2 = none → cap2 = 0) := by
        show _ → _
        intro h; rcases hfm2 with h1 | ⟨g, h1, _⟩ <;> simp_all
      clear hfm2
      have h1 : OwnB (w.heap.size + 1) w1 _ l := HO.out.below hb1
      have hz1 : wr.heap.size ≤ w1.heap.size := hb1.size
      go_wp2_with (at_builtin; refine wpList_appB rfl _ _ rfl (w.heap.size + 1) _ _ _ _ _ rfl h1 rfl hrd2 HF2.out ?c2 ?c3 ?_)
      case c2 => rw [venc_length]; omega
      case c3 => omega
      intro v3 w3 hown3 hb3
      have hb3 := hb3.below h1.base (by omega)
      have HO3 := Lib.hid hown3
      clear hown3 h1 hown2
      go_wp2
      have hB13 : Below (w.heap.size + 1) wr w3 := (hb1.mono hBw).trans hb3
      go_roundw
      case rel =>
        refine ⟨j + 1, l ++ venc k' n' s' kids', r', by go_num, HO3.out, by omega, by omega, ?_, ?_, by omega, hbr.trans hB13⟩
        · have := HM.out.below (hB13.mono (by omega))
          rw [show o + (j + 1) * 4 = o + j * 4 + 4 from by omega]; exact this
        · show _ = _
          have := HW.out
          rw [VL.enc_cons] at this
          rw [List.append_assoc]; exact this
      case measure => simp [intOf]; omega
end Go.Proofs.Ytihllbblehjhlaa
