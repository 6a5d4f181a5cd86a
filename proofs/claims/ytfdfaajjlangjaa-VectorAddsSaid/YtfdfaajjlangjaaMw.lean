/-
  Statements about vector: the order; the least and the greatest.
-/
import Derived.Test.YtfdfaajjlangjaaMv
namespace Go.Proofs.Ytfdfaajjlangjaa
open Go.RowKit
set_option linter.unusedVariables false
set_option linter.unusedSimpArgs false

theorem cmp4 (a b : List Dt) : (leV a b ∧ leV b a ∧ cmpV a b = 0 ∧ cmpV b a = 0) ∨ (leV a b ∧ ¬ leV b a ∧ cmpV a b = -1 ∧ cmpV b a = 1) ∨ (¬ leV a b ∧ leV b a ∧ cmpV a b = 1 ∧ cmpV b a = -1) ∨ (¬ leV a b ∧ ¬ leV b a ∧ cmpV a b = 2 ∧ cmpV b a = 2) := by
  unfold cmpV
  by_cases h1 : leV a b <;> by_cases h2 : leV b a <;> simp [h1, h2]
theorem cmp_lo {a b : List Dt} (h : leV a b) : cmpV a b = -1 ∨ cmpV a b = 0 := cmpV_most.2 h
theorem cmp_hi {a b : List Dt} (h : ¬ leV a b) : cmpV a b = 1 ∨ cmpV a b = 2 := by
  unfold cmpV
  by_cases h2 : leV b a <;> simp [h, h2]
theorem cmp_ge {a b : List Dt} (h : leV b a) : cmpV a b = 1 ∨ cmpV a b = 0 := cmpV_least.2 h
theorem cmp_ng {a b : List Dt} (h : ¬ leV b a) : cmpV a b = -1 ∨ cmpV a b = 2 := by
  unfold cmpV
  by_cases h2 : leV a b <;> simp [h, h2]

set_option maxRecDepth 100000 in
set_option maxHeartbeats 4000000 in
theorem vectorOrder_walk {va : Value} {l : List Dt} {vb : Value} {m : List Dt} {vc : Value} {c : List Dt} (w : World) (h0 : RsV w.heap.size w va l) (h1 : RsV w.heap.size w vb m) (h2 : RsV w.heap.size w vc c) :
    Calls Try.prog 7 #[va, vb, vc] w fun e w' => e = .returned (.bool true) ∧ Below w.heap.size w w' := by
  have HB0 := Lib.hid ((((DX.start w).add h2).add h1).add h0)
  clear h0 h1 h2
  go_enter Try.func7, Try.ntmps7
  go_wp2_with fail
  with_reducible refine (sane12_any _).mono ?_
  rintro e w1 ⟨rfl, hb⟩
  have HB1 := Lib.hid (HB0.out.call hb)
  clear hb HB0
  go_wp2_with fail
  by_cases hf_a : l.length ≤ 600
  rotate_left
  · have K := FewV (HB1.out.rd _ _ (List.Mem.head _))
    rw [decide_eq_false hf_a] at K
    with_reducible refine K.mono ?_
    rintro e wx ⟨rfl, hb⟩
    clear K
    have HB9 := Lib.hid (HB1.out.call hb)
    clear hb
    go_wp2_with fail
    go_ret
    exact ⟨rfl, HB9.out.below⟩
  have K1 := FewV (HB1.out.rd _ _ (List.Mem.head _))
  rw [decide_eq_true hf_a] at K1
  with_reducible refine (K1).mono ?_
  rintro e w2 ⟨rfl, hb⟩
  clear K1
  have HB2 := Lib.hid (HB1.out.call hb)
  clear hb HB1
  go_wp2_with fail
  by_cases hf_b : m.length ≤ 600
  rotate_left
  · have K := FewV (HB2.out.rd _ _ (List.Mem.tail _ (List.Mem.head _)))
    rw [decide_eq_false hf_b] at K
    with_reducible refine K.mono ?_
    rintro e wx ⟨rfl, hb⟩
    clear K
    have HB9 := Lib.hid (HB2.out.call hb)
    clear hb
    go_wp2_with fail
    go_ret
    exact ⟨rfl, HB9.out.below⟩
  have K2 := FewV (HB2.out.rd _ _ (List.Mem.tail _ (List.Mem.head _)))
  rw [decide_eq_true hf_b] at K2
  with_reducible refine (K2).mono ?_
  rintro e w3 ⟨rfl, hb⟩
  clear K2
  have HB3 := Lib.hid (HB2.out.call hb)
  clear hb HB2
  go_wp2_with fail
  by_cases hf_c : c.length ≤ 600
  rotate_left
  · have K := FewV (HB3.out.rd _ _ (List.Mem.tail _ (List.Mem.tail _ (List.Mem.head _))))
    rw [decide_eq_false hf_c] at K
    with_reducible refine K.mono ?_
    rintro e wx ⟨rfl, hb⟩
    clear K
    have HB9 := Lib.hid (HB3.out.call hb)
    clear hb
    go_wp2_with fail
    go_ret
    exact ⟨rfl, HB9.out.below⟩
  have K3 := FewV (HB3.out.rd _ _ (List.Mem.tail _ (List.Mem.tail _ (List.Mem.head _))))
  rw [decide_eq_true hf_c] at K3
  with_reducible refine (K3).mono ?_
  rintro e w4 ⟨rfl, hb⟩
  clear K3
  have HB4 := Lib.hid (HB3.out.call hb)
  clear hb HB3
  go_wp2_with fail
  by_cases ho_a : okV l
  rotate_left
  · have K := CheckV (HB4.out.rd _ _ (List.Mem.head _))
    rw [chV_bad ho_a] at K
    with_reducible refine K.mono ?_
    rintro e wx ⟨rfl, hb⟩
    clear K
    have HB9 := Lib.hid (HB4.out.call hb)
    clear hb
    go_wp2_with fail
    go_ret
    exact ⟨rfl, HB9.out.below⟩
  have K4 := CheckV (HB4.out.rd _ _ (List.Mem.head _))
  rw [chV_ok ho_a] at K4
  with_reducible refine (K4).mono ?_
  rintro e w5 ⟨rfl, hb⟩
  clear K4
  have HB5 := Lib.hid (HB4.out.call hb)
  clear hb HB4
  go_wp2_with fail
  by_cases ho_b : okV m
  rotate_left
  · have K := CheckV (HB5.out.rd _ _ (List.Mem.tail _ (List.Mem.head _)))
    rw [chV_bad ho_b] at K
    with_reducible refine K.mono ?_
    rintro e wx ⟨rfl, hb⟩
    clear K
    have HB9 := Lib.hid (HB5.out.call hb)
    clear hb
    go_wp2_with fail
    go_ret
    exact ⟨rfl, HB9.out.below⟩
  have K5 := CheckV (HB5.out.rd _ _ (List.Mem.tail _ (List.Mem.head _)))
  rw [chV_ok ho_b] at K5
  with_reducible refine (K5).mono ?_
  rintro e w6 ⟨rfl, hb⟩
  clear K5
  have HB6 := Lib.hid (HB5.out.call hb)
  clear hb HB5
  go_wp2_with fail
  by_cases ho_c : okV c
  rotate_left
  · have K := CheckV (HB6.out.rd _ _ (List.Mem.tail _ (List.Mem.tail _ (List.Mem.head _))))
    rw [chV_bad ho_c] at K
    with_reducible refine K.mono ?_
    rintro e wx ⟨rfl, hb⟩
    clear K
    have HB9 := Lib.hid (HB6.out.call hb)
    clear hb
    go_wp2_with fail
    go_ret
    exact ⟨rfl, HB9.out.below⟩
  have K6 := CheckV (HB6.out.rd _ _ (List.Mem.tail _ (List.Mem.tail _ (List.Mem.head _))))
  rw [chV_ok ho_c] at K6
  with_reducible refine (K6).mono ?_
  rintro e w7 ⟨rfl, hb⟩
  clear K6
  have HB7 := Lib.hid (HB6.out.call hb)
  clear hb HB6
  go_wp2_with fail
  have K7 := CompareV (HB7.out.rd _ _ (List.Mem.head _)) (HB7.out.rd _ _ (List.Mem.tail _ (List.Mem.head _)))
  rw [cmR_ok ho_a ho_b, erR_ok ho_a ho_b] at K7
  with_reducible refine (K7).mono ?_
  rintro e w8 ⟨rfl, hb⟩
  clear K7
  have HB8 := Lib.hid (HB7.out.call hb)
  clear hb HB7
  go_wp2_with fail
  have K8 := CompareV (HB8.out.rd _ _ (List.Mem.tail _ (List.Mem.head _))) (HB8.out.rd _ _ (List.Mem.head _))
  rw [cmR_ok ho_b ho_a, erR_ok ho_b ho_a] at K8
  with_reducible refine (K8).mono ?_
  rintro e w9 ⟨rfl, hb⟩
  clear K8
  have HB9 := Lib.hid (HB8.out.call hb)
  clear hb HB8
  go_wp2_with fail
  have K9 := CompareV (HB9.out.rd _ _ (List.Mem.tail _ (List.Mem.head _))) (HB9.out.rd _ _ (List.Mem.tail _ (List.Mem.tail _ (List.Mem.head _))))
  rw [cmR_ok ho_b ho_c, erR_ok ho_b ho_c] at K9
  with_reducible refine (K9).mono ?_
  rintro e w10 ⟨rfl, hb⟩
  clear K9
  have HB10 := Lib.hid (HB9.out.call hb)
  clear hb HB9
  go_wp2_with fail
  have K10 := CompareV (HB10.out.rd _ _ (List.Mem.head _)) (HB10.out.rd _ _ (List.Mem.tail _ (List.Mem.tail _ (List.Mem.head _))))
  rw [cmR_ok ho_a ho_c, erR_ok ho_a ho_c] at K10
  with_reducible refine (K10).mono ?_
  rintro e w11 ⟨rfl, hb⟩
  clear K10
  have HB11 := Lib.hid (HB10.out.call hb)
  clear hb HB10
  go_wp2_with fail
  have K11 := JoinV (HB11.out.rd _ _ (List.Mem.head _)) (HB11.out.rd _ _ (List.Mem.tail _ (List.Mem.head _))) (okV_few ho_a) (okV_few1 ho_b)
  rw [erR_ok ho_a ho_b, jnR_ok ho_a ho_b] at K11
  with_reducible refine (K11).mono ?_
  rintro e w12 ⟨v_j, rfl, hr, hb⟩
  clear K11
  have HB12 := Lib.hid (HB11.out.call hb)
  clear hb HB11
  have HB13 := Lib.hid (HB12.out.add hr)
  clear hr HB12
  go_wp2_with fail
  have K13 := MeetV (HB13.out.rd _ _ (List.Mem.tail _ (List.Mem.head _))) (HB13.out.rd _ _ (List.Mem.tail _ (List.Mem.tail _ (List.Mem.head _)))) (okV_few ho_a) (okV_few1 ho_b)
  rw [erR_ok ho_a ho_b, mtR_ok ho_a ho_b] at K13
  with_reducible refine (K13).mono ?_
  rintro e w14 ⟨v_k, rfl, hr, hb⟩
  clear K13
  have HB14 := Lib.hid (HB13.out.call hb)
  clear hb HB13
  have HB15 := Lib.hid (HB14.out.add hr)
  clear hr HB14
  rcases cmp4 l m with ⟨p1, p2, e1, e2⟩ | ⟨p1, p2, e1, e2⟩ | ⟨p1, p2, e1, e2⟩ | ⟨p1, p2, e1, e2⟩
  · rw [e1, e2]
    go_wp2_with fail
    have K15 := SameV (HB15.out.rd _ _ (List.Mem.tail _ (List.Mem.tail _ (List.Mem.head _)))) (HB15.out.rd _ _ (List.Mem.tail _ (List.Mem.tail _ (List.Mem.tail _ (List.Mem.head _)))))
    rw [decide_eq_true ((cmpV_zero ho_a ho_b).1 e1)] at K15
    with_reducible refine (K15).mono ?_
    rintro e w16 ⟨rfl, hb⟩
    clear K15
    have HB16 := Lib.hid (HB15.out.call hb)
    clear hb HB15
    go_wp2_with fail
    have K16 := SameV (HB16.out.rd _ _ (List.Mem.tail _ (List.Mem.head _))) (HB16.out.rd _ _ (List.Mem.tail _ (List.Mem.tail _ (List.Mem.tail _ (List.Mem.head _)))))
    rw [decide_eq_true ((leV_join ho_a ho_b).1 p1)] at K16
    with_reducible refine (K16).mono ?_
    rintro e w17 ⟨rfl, hb⟩
    clear K16
    have HB17 := Lib.hid (HB16.out.call hb)
    clear hb HB16
    go_wp2_with fail
    have K17 := SameV (HB17.out.rd _ _ (List.Mem.head _)) (HB17.out.rd _ _ (List.Mem.tail _ (List.Mem.tail _ (List.Mem.head _))))
    rw [decide_eq_true ((leV_meet ho_a ho_b).1 p1)] at K17
    with_reducible refine (K17).mono ?_
    rintro e w18 ⟨rfl, hb⟩
    clear K17
    have HB18 := Lib.hid (HB17.out.call hb)
    clear hb HB17
    rcases cmp4 m c with ⟨p3, p4, e3, e4⟩ | ⟨p3, p4, e3, e4⟩ | ⟨p3, p4, e3, e4⟩ | ⟨p3, p4, e3, e4⟩
    · rw [e3]
      rcases cmp_lo (leV_trans ho_a ho_b ho_c p1 p3) with e5 | e5
      · rw [e5]
        go_wp2_with fail
        go_ret
        exact ⟨rfl, HB18.out.below⟩
      · rw [e5]
        go_wp2_with fail
        go_ret
        exact ⟨rfl, HB18.out.below⟩
    · rw [e3]
      rcases cmp_lo (leV_trans ho_a ho_b ho_c p1 p3) with e5 | e5
      · rw [e5]
        go_wp2_with fail
        go_ret
        exact ⟨rfl, HB18.out.below⟩
      · rw [e5]
        go_wp2_with fail
        go_ret
        exact ⟨rfl, HB18.out.below⟩
    · rw [e3]
      go_wp2_with fail
      go_ret
      exact ⟨rfl, HB18.out.below⟩
    · rw [e3]
      go_wp2_with fail
      go_ret
      exact ⟨rfl, HB18.out.below⟩
  · rw [e1, e2]
    go_wp2_with fail
    have K15 := SameV (HB15.out.rd _ _ (List.Mem.tail _ (List.Mem.tail _ (List.Mem.head _)))) (HB15.out.rd _ _ (List.Mem.tail _ (List.Mem.tail _ (List.Mem.tail _ (List.Mem.head _)))))
    rw [decide_eq_false (fun h9 => by have := (cmpV_zero ho_a ho_b).2 h9; omega)] at K15
    with_reducible refine (K15).mono ?_
    rintro e w16 ⟨rfl, hb⟩
    clear K15
    have HB16 := Lib.hid (HB15.out.call hb)
    clear hb HB15
    go_wp2_with fail
    have K16 := SameV (HB16.out.rd _ _ (List.Mem.tail _ (List.Mem.head _))) (HB16.out.rd _ _ (List.Mem.tail _ (List.Mem.tail _ (List.Mem.tail _ (List.Mem.head _)))))
    rw [decide_eq_true ((leV_join ho_a ho_b).1 p1)] at K16
    with_reducible refine (K16).mono ?_
    rintro e w17 ⟨rfl, hb⟩
    clear K16
    have HB17 := Lib.hid (HB16.out.call hb)
    clear hb HB16
    go_wp2_with fail
    have K17 := SameV (HB17.out.rd _ _ (List.Mem.head _)) (HB17.out.rd _ _ (List.Mem.tail _ (List.Mem.tail _ (List.Mem.head _))))
    rw [decide_eq_true ((leV_meet ho_a ho_b).1 p1)] at K17
    with_reducible refine (K17).mono ?_
    rintro e w18 ⟨rfl, hb⟩
    clear K17
    have HB18 := Lib.hid (HB17.out.call hb)
    clear hb HB17
    rcases cmp4 m c with ⟨p3, p4, e3, e4⟩ | ⟨p3, p4, e3, e4⟩ | ⟨p3, p4, e3, e4⟩ | ⟨p3, p4, e3, e4⟩
    · rw [e3]
      rcases cmp_lo (leV_trans ho_a ho_b ho_c p1 p3) with e5 | e5
      · rw [e5]
        go_wp2_with fail
        go_ret
        exact ⟨rfl, HB18.out.below⟩
      · rw [e5]
        go_wp2_with fail
        go_ret
        exact ⟨rfl, HB18.out.below⟩
    · rw [e3]
      rcases cmp_lo (leV_trans ho_a ho_b ho_c p1 p3) with e5 | e5
      · rw [e5]
        go_wp2_with fail
        go_ret
        exact ⟨rfl, HB18.out.below⟩
      · rw [e5]
        go_wp2_with fail
        go_ret
        exact ⟨rfl, HB18.out.below⟩
    · rw [e3]
      go_wp2_with fail
      go_ret
      exact ⟨rfl, HB18.out.below⟩
    · rw [e3]
      go_wp2_with fail
      go_ret
      exact ⟨rfl, HB18.out.below⟩
  · rw [e1, e2]
    go_wp2_with fail
    have K15 := SameV (HB15.out.rd _ _ (List.Mem.tail _ (List.Mem.tail _ (List.Mem.head _)))) (HB15.out.rd _ _ (List.Mem.tail _ (List.Mem.tail _ (List.Mem.tail _ (List.Mem.head _)))))
    rw [decide_eq_false (fun h9 => by have := (cmpV_zero ho_a ho_b).2 h9; omega)] at K15
    with_reducible refine (K15).mono ?_
    rintro e w16 ⟨rfl, hb⟩
    clear K15
    have HB16 := Lib.hid (HB15.out.call hb)
    clear hb HB15
    go_wp2_with fail
    have K16 := SameV (HB16.out.rd _ _ (List.Mem.tail _ (List.Mem.head _))) (HB16.out.rd _ _ (List.Mem.tail _ (List.Mem.tail _ (List.Mem.tail _ (List.Mem.head _)))))
    rw [decide_eq_false (fun h9 => p1 ((leV_join ho_a ho_b).2 h9))] at K16
    with_reducible refine (K16).mono ?_
    rintro e w17 ⟨rfl, hb⟩
    clear K16
    have HB17 := Lib.hid (HB16.out.call hb)
    clear hb HB16
    go_wp2_with fail
    have K17 := SameV (HB17.out.rd _ _ (List.Mem.head _)) (HB17.out.rd _ _ (List.Mem.tail _ (List.Mem.tail _ (List.Mem.head _))))
    rw [decide_eq_false (fun h9 => p1 ((leV_meet ho_a ho_b).2 h9))] at K17
    with_reducible refine (K17).mono ?_
    rintro e w18 ⟨rfl, hb⟩
    clear K17
    have HB18 := Lib.hid (HB17.out.call hb)
    clear hb HB17
    go_wp2_with fail
    go_ret
    exact ⟨rfl, HB18.out.below⟩
  · rw [e1, e2]
    go_wp2_with fail
    have K15 := SameV (HB15.out.rd _ _ (List.Mem.tail _ (List.Mem.tail _ (List.Mem.head _)))) (HB15.out.rd _ _ (List.Mem.tail _ (List.Mem.tail _ (List.Mem.tail _ (List.Mem.head _)))))
    rw [decide_eq_false (fun h9 => by have := (cmpV_zero ho_a ho_b).2 h9; omega)] at K15
    with_reducible refine (K15).mono ?_
    rintro e w16 ⟨rfl, hb⟩
    clear K15
    have HB16 := Lib.hid (HB15.out.call hb)
    clear hb HB15
    go_wp2_with fail
    have K16 := SameV (HB16.out.rd _ _ (List.Mem.tail _ (List.Mem.head _))) (HB16.out.rd _ _ (List.Mem.tail _ (List.Mem.tail _ (List.Mem.tail _ (List.Mem.head _)))))
    rw [decide_eq_false (fun h9 => p1 ((leV_join ho_a ho_b).2 h9))] at K16
    with_reducible refine (K16).mono ?_
    rintro e w17 ⟨rfl, hb⟩
    clear K16
    have HB17 := Lib.hid (HB16.out.call hb)
    clear hb HB16
    go_wp2_with fail
    have K17 := SameV (HB17.out.rd _ _ (List.Mem.head _)) (HB17.out.rd _ _ (List.Mem.tail _ (List.Mem.tail _ (List.Mem.head _))))
    rw [decide_eq_false (fun h9 => p1 ((leV_meet ho_a ho_b).2 h9))] at K17
    with_reducible refine (K17).mono ?_
    rintro e w18 ⟨rfl, hb⟩
    clear K17
    have HB18 := Lib.hid (HB17.out.call hb)
    clear hb HB17
    go_wp2_with fail
    go_ret
    exact ⟨rfl, HB18.out.below⟩
end Go.Proofs.Ytfdfaajjlangjaa
