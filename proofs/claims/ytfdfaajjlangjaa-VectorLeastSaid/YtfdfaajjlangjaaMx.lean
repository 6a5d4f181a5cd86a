/-
  Statements about vector: the least and the greatest.
-/
import Derived.Test.YtfdfaajjlangjaaMw
namespace Go.Proofs.Ytfdfaajjlangjaa
open Go.RowKit
set_option linter.unusedVariables false
set_option linter.unusedSimpArgs false

set_option maxRecDepth 100000 in
set_option maxHeartbeats 4000000 in
theorem vectorLeast_walk0 {va : Value} {l : List Dt} {vb : Value} {m : List Dt} {vc : Value} {c : List Dt} (w : World) (h0 : RsV w.heap.size w va l) (h1 : RsV w.heap.size w vb m) (h2 : RsV w.heap.size w vc c) (p1 : leV l c) (p2 : leV c l) (e1 : cmpV l c = 0) :
    Calls Try.prog 8 #[va, vb, vc] w fun e w' => e = .returned (.bool true) ∧ Below w.heap.size w w' := by
  have HB0 := Lib.hid ((((DX.start w).add h2).add h1).add h0)
  clear h0 h1 h2
  go_enter Try.func8, Try.ntmps8
  go_wp2_with fail
  with_reducible refine (sane12_any _).mono ?_
  rintro e w1 ⟨rfl, hb⟩
  have HB1 := Lib.hid (HB0.out.call hb)
  clear hb HB0
  go_wp2_with fail
  by_cases hf_a : l.length ≤ 600
  rotate_left
  · have K := FewV (HB1.out.rd _ _ (List.Mem.head _))
    rw [decide_eq_false hf_a] at K
    with_reducible refine K.mono ?_
    rintro e wx ⟨rfl, hb⟩
    clear K
    have HB9 := Lib.hid (HB1.out.call hb)
    clear hb
    go_wp2_with fail
    go_ret
    exact ⟨rfl, HB9.out.below⟩
  have K1 := FewV (HB1.out.rd _ _ (List.Mem.head _))
  rw [decide_eq_true hf_a] at K1
  with_reducible refine (K1).mono ?_
  rintro e w2 ⟨rfl, hb⟩
  clear K1
  have HB2 := Lib.hid (HB1.out.call hb)
  clear hb HB1
  go_wp2_with fail
  by_cases hf_b : m.length ≤ 600
  rotate_left
  · have K := FewV (HB2.out.rd _ _ (List.Mem.tail _ (List.Mem.head _)))
    rw [decide_eq_false hf_b] at K
    with_reducible refine K.mono ?_
    rintro e wx ⟨rfl, hb⟩
    clear K
    have HB9 := Lib.hid (HB2.out.call hb)
    clear hb
    go_wp2_with fail
    go_ret
    exact ⟨rfl, HB9.out.below⟩
  have K2 := FewV (HB2.out.rd _ _ (List.Mem.tail _ (List.Mem.head _)))
  rw [decide_eq_true hf_b] at K2
  with_reducible refine (K2).mono ?_
  rintro e w3 ⟨rfl, hb⟩
  clear K2
  have HB3 := Lib.hid (HB2.out.call hb)
  clear hb HB2
  go_wp2_with fail
  by_cases hf_c : c.length ≤ 600
  rotate_left
  · have K := FewV (HB3.out.rd _ _ (List.Mem.tail _ (List.Mem.tail _ (List.Mem.head _))))
    rw [decide_eq_false hf_c] at K
    with_reducible refine K.mono ?_
    rintro e wx ⟨rfl, hb⟩
    clear K
    have HB9 := Lib.hid (HB3.out.call hb)
    clear hb
    go_wp2_with fail
    go_ret
    exact ⟨rfl, HB9.out.below⟩
  have K3 := FewV (HB3.out.rd _ _ (List.Mem.tail _ (List.Mem.tail _ (List.Mem.head _))))
  rw [decide_eq_true hf_c] at K3
  with_reducible refine (K3).mono ?_
  rintro e w4 ⟨rfl, hb⟩
  clear K3
  have HB4 := Lib.hid (HB3.out.call hb)
  clear hb HB3
  go_wp2_with fail
  by_cases ho_a : okV l
  rotate_left
  · have K := CheckV (HB4.out.rd _ _ (List.Mem.head _))
    rw [chV_bad ho_a] at K
    with_reducible refine K.mono ?_
    rintro e wx ⟨rfl, hb⟩
    clear K
    have HB9 := Lib.hid (HB4.out.call hb)
    clear hb
    go_wp2_with fail
    go_ret
    exact ⟨rfl, HB9.out.below⟩
  have K4 := CheckV (HB4.out.rd _ _ (List.Mem.head _))
  rw [chV_ok ho_a] at K4
  with_reducible refine (K4).mono ?_
  rintro e w5 ⟨rfl, hb⟩
  clear K4
  have HB5 := Lib.hid (HB4.out.call hb)
  clear hb HB4
  go_wp2_with fail
  by_cases ho_b : okV m
  rotate_left
  · have K := CheckV (HB5.out.rd _ _ (List.Mem.tail _ (List.Mem.head _)))
    rw [chV_bad ho_b] at K
    with_reducible refine K.mono ?_
    rintro e wx ⟨rfl, hb⟩
    clear K
    have HB9 := Lib.hid (HB5.out.call hb)
    clear hb
    go_wp2_with fail
    go_ret
    exact ⟨rfl, HB9.out.below⟩
  have K5 := CheckV (HB5.out.rd _ _ (List.Mem.tail _ (List.Mem.head _)))
  rw [chV_ok ho_b] at K5
  with_reducible refine (K5).mono ?_
  rintro e w6 ⟨rfl, hb⟩
  clear K5
  have HB6 := Lib.hid (HB5.out.call hb)
  clear hb HB5
  go_wp2_with fail
  by_cases ho_c : okV c
  rotate_left
  · have K := CheckV (HB6.out.rd _ _ (List.Mem.tail _ (List.Mem.tail _ (List.Mem.head _))))
    rw [chV_bad ho_c] at K
    with_reducible refine K.mono ?_
    rintro e wx ⟨rfl, hb⟩
    clear K
    have HB9 := Lib.hid (HB6.out.call hb)
    clear hb
    go_wp2_with fail
    go_ret
    exact ⟨rfl, HB9.out.below⟩
  have K6 := CheckV (HB6.out.rd _ _ (List.Mem.tail _ (List.Mem.tail _ (List.Mem.head _))))
  rw [chV_ok ho_c] at K6
  with_reducible refine (K6).mono ?_
  rintro e w7 ⟨rfl, hb⟩
  clear K6
  have HB7 := Lib.hid (HB6.out.call hb)
  clear hb HB6
  go_wp2_with fail
  have K7 := JoinV (HB7.out.rd _ _ (List.Mem.head _)) (HB7.out.rd _ _ (List.Mem.tail _ (List.Mem.head _))) (okV_few ho_a) (okV_few1 ho_b)
  rw [erR_ok ho_a ho_b, jnR_ok ho_a ho_b] at K7
  with_reducible refine (K7).mono ?_
  rintro e w8 ⟨v_j, rfl, hr, hb⟩
  clear K7
  have HB8 := Lib.hid (HB7.out.call hb)
  clear hb HB7
  have HB9 := Lib.hid (HB8.out.add hr)
  clear hr HB8
  go_wp2_with fail
  have K9 := MeetV (HB9.out.rd _ _ (List.Mem.tail _ (List.Mem.head _))) (HB9.out.rd _ _ (List.Mem.tail _ (List.Mem.tail _ (List.Mem.head _)))) (okV_few ho_a) (okV_few1 ho_b)
  rw [erR_ok ho_a ho_b, mtR_ok ho_a ho_b] at K9
  with_reducible refine (K9).mono ?_
  rintro e w10 ⟨v_k, rfl, hr, hb⟩
  clear K9
  have HB10 := Lib.hid (HB9.out.call hb)
  clear hb HB9
  have HB11 := Lib.hid (HB10.out.add hr)
  clear hr HB10
  go_wp2_with fail
  have K11 := CompareV (HB11.out.rd _ _ (List.Mem.tail _ (List.Mem.tail _ (List.Mem.head _)))) (HB11.out.rd _ _ (List.Mem.tail _ (List.Mem.tail _ (List.Mem.tail _ (List.Mem.tail _ (List.Mem.head _))))))
  rw [cmR_ok ho_a ho_c, erR_ok ho_a ho_c] at K11
  with_reducible refine (K11).mono ?_
  rintro e w12 ⟨rfl, hb⟩
  clear K11
  have HB12 := Lib.hid (HB11.out.call hb)
  clear hb HB11
  go_wp2_with fail
  have K12 := CompareV (HB12.out.rd _ _ (List.Mem.tail _ (List.Mem.tail _ (List.Mem.tail _ (List.Mem.head _))))) (HB12.out.rd _ _ (List.Mem.tail _ (List.Mem.tail _ (List.Mem.tail _ (List.Mem.tail _ (List.Mem.head _))))))
  rw [cmR_ok ho_b ho_c, erR_ok ho_b ho_c] at K12
  with_reducible refine (K12).mono ?_
  rintro e w13 ⟨rfl, hb⟩
  clear K12
  have HB13 := Lib.hid (HB12.out.call hb)
  clear hb HB12
  go_wp2_with fail
  have K13 := CompareV (HB13.out.rd _ _ (List.Mem.tail _ (List.Mem.head _))) (HB13.out.rd _ _ (List.Mem.tail _ (List.Mem.tail _ (List.Mem.tail _ (List.Mem.tail _ (List.Mem.head _))))))
  rw [cmR_ok (jnV_ok _ _ ho_a ho_b) ho_c, erR_ok (jnV_ok _ _ ho_a ho_b) ho_c] at K13
  with_reducible refine (K13).mono ?_
  rintro e w14 ⟨rfl, hb⟩
  clear K13
  have HB14 := Lib.hid (HB13.out.call hb)
  clear hb HB13
  go_wp2_with fail
  have K14 := CompareV (HB14.out.rd _ _ (List.Mem.head _)) (HB14.out.rd _ _ (List.Mem.tail _ (List.Mem.tail _ (List.Mem.tail _ (List.Mem.tail _ (List.Mem.head _))))))
  rw [cmR_ok (mtV_ok _ _ ho_a ho_b) ho_c, erR_ok (mtV_ok _ _ ho_a ho_b) ho_c] at K14
  with_reducible refine (K14).mono ?_
  rintro e w15 ⟨rfl, hb⟩
  clear K14
  have HB15 := Lib.hid (HB14.out.call hb)
  clear hb HB14
  have QJ := join_least ho_a ho_b ho_c
  have QM := meet_most ho_a ho_b ho_c
  rcases cmp4 m c with ⟨p3, p4, e3, -⟩ | ⟨p3, p4, e3, -⟩ | ⟨p3, p4, e3, -⟩ | ⟨p3, p4, e3, -⟩
  · have HJ := cmp_lo (QJ.2 ⟨p1, p3⟩)
    have HM := cmp_ge (QM.2 ⟨p2, p4⟩)
    clear QJ QM p1 p2 p3 p4
    rw [e3]
    clear e1 e3
    rcases HJ with e5 | e5
    · rw [e5]
      clear e5
      rcases HM with e6 | e6
      · rw [e6]
        clear e6
        go_wp2_with fail
        go_ret
        exact ⟨rfl, HB15.out.below⟩
      · rw [e6]
        clear e6
        go_wp2_with fail
        go_ret
        exact ⟨rfl, HB15.out.below⟩
    · rw [e5]
      clear e5
      rcases HM with e6 | e6
      · rw [e6]
        clear e6
        go_wp2_with fail
        go_ret
        exact ⟨rfl, HB15.out.below⟩
      · rw [e6]
        clear e6
        go_wp2_with fail
        go_ret
        exact ⟨rfl, HB15.out.below⟩
  · have HJ := cmp_lo (QJ.2 ⟨p1, p3⟩)
    have HM := cmp_ng (fun h9 => p4 (QM.1 h9).2)
    clear QJ QM p1 p2 p3 p4
    rw [e3]
    clear e1 e3
    rcases HJ with e5 | e5
    · rw [e5]
      clear e5
      obtain ⟨zm, hzm⟩ := exEqD (cmpV (mtV l m) c)
      rw [hzm] at HM ⊢
      have f7 : (zm == 1) = false := beq_eq_false_iff_ne.2 (by omega)
      have f8 : (zm == 0) = false := beq_eq_false_iff_ne.2 (by omega)
      clear HM hzm
      go_wp2_with fail
      go_ret
      exact ⟨rfl, HB15.out.below⟩
    · rw [e5]
      clear e5
      obtain ⟨zm, hzm⟩ := exEqD (cmpV (mtV l m) c)
      rw [hzm] at HM ⊢
      have f7 : (zm == 1) = false := beq_eq_false_iff_ne.2 (by omega)
      have f8 : (zm == 0) = false := beq_eq_false_iff_ne.2 (by omega)
      clear HM hzm
      go_wp2_with fail
      go_ret
      exact ⟨rfl, HB15.out.below⟩
  · have HJ := cmp_hi (fun h9 => p3 (QJ.1 h9).2)
    have HM := cmp_ge (QM.2 ⟨p2, p4⟩)
    clear QJ QM p1 p2 p3 p4
    rw [e3]
    clear e1 e3
    obtain ⟨zj, hzj⟩ := exEqD (cmpV (jnV l m) c)
    rw [hzj] at HJ ⊢
    have f5 : (zj == -1) = false := beq_eq_false_iff_ne.2 (by omega)
    have f6 : (zj == 0) = false := beq_eq_false_iff_ne.2 (by omega)
    clear HJ hzj
    rcases HM with e6 | e6
    · rw [e6]
      clear e6
      go_wp2_with fail
      go_ret
      exact ⟨rfl, HB15.out.below⟩
    · rw [e6]
      clear e6
      go_wp2_with fail
      go_ret
      exact ⟨rfl, HB15.out.below⟩
  · have HJ := cmp_hi (fun h9 => p3 (QJ.1 h9).2)
    have HM := cmp_ng (fun h9 => p4 (QM.1 h9).2)
    clear QJ QM p1 p2 p3 p4
    rw [e3]
    clear e1 e3
    obtain ⟨zj, hzj⟩ := exEqD (cmpV (jnV l m) c)
    rw [hzj] at HJ ⊢
    have f5 : (zj == -1) = false := beq_eq_false_iff_ne.2 (by omega)
    have f6 : (zj == 0) = false := beq_eq_false_iff_ne.2 (by omega)
    clear HJ hzj
    obtain ⟨zm, hzm⟩ := exEqD (cmpV (mtV l m) c)
    rw [hzm] at HM ⊢
    have f7 : (zm == 1) = false := beq_eq_false_iff_ne.2 (by omega)
    have f8 : (zm == 0) = false := beq_eq_false_iff_ne.2 (by omega)
    clear HM hzm
    go_wp2_with fail
    go_ret
    exact ⟨rfl, HB15.out.below⟩

set_option maxRecDepth 100000 in
set_option maxHeartbeats 4000000 in
theorem vectorLeast_walk1 {va : Value} {l : List Dt} {vb : Value} {m : List Dt} {vc : Value} {c : List Dt} (w : World) (h0 : RsV w.heap.size w va l) (h1 : RsV w.heap.size w vb m) (h2 : RsV w.heap.size w vc c) (p1 : leV l c) (p2 : ¬ leV c l) (e1 : cmpV l c = -1) :
    Calls Try.prog 8 #[va, vb, vc] w fun e w' => e = .returned (.bool true) ∧ Below w.heap.size w w' := by
  have HB0 := Lib.hid ((((DX.start w).add h2).add h1).add h0)
  clear h0 h1 h2
  go_enter Try.func8, Try.ntmps8
  go_wp2_with fail
  with_reducible refine (sane12_any _).mono ?_
  rintro e w1 ⟨rfl, hb⟩
  have HB1 := Lib.hid (HB0.out.call hb)
  clear hb HB0
  go_wp2_with fail
  by_cases hf_a : l.length ≤ 600
  rotate_left
  · have K := FewV (HB1.out.rd _ _ (List.Mem.head _))
    rw [decide_eq_false hf_a] at K
    with_reducible refine K.mono ?_
    rintro e wx ⟨rfl, hb⟩
    clear K
    have HB9 := Lib.hid (HB1.out.call hb)
    clear hb
    go_wp2_with fail
    go_ret
    exact ⟨rfl, HB9.out.below⟩
  have K1 := FewV (HB1.out.rd _ _ (List.Mem.head _))
  rw [decide_eq_true hf_a] at K1
  with_reducible refine (K1).mono ?_
  rintro e w2 ⟨rfl, hb⟩
  clear K1
  have HB2 := Lib.hid (HB1.out.call hb)
  clear hb HB1
  go_wp2_with fail
  by_cases hf_b : m.length ≤ 600
  rotate_left
  · have K := FewV (HB2.out.rd _ _ (List.Mem.tail _ (List.Mem.head _)))
    rw [decide_eq_false hf_b] at K
    with_reducible refine K.mono ?_
    rintro e wx ⟨rfl, hb⟩
    clear K
    have HB9 := Lib.hid (HB2.out.call hb)
    clear hb
    go_wp2_with fail
    go_ret
    exact ⟨rfl, HB9.out.below⟩
  have K2 := FewV (HB2.out.rd _ _ (List.Mem.tail _ (List.Mem.head _)))
  rw [decide_eq_true hf_b] at K2
  with_reducible refine (K2).mono ?_
  rintro e w3 ⟨rfl, hb⟩
  clear K2
  have HB3 := Lib.hid (HB2.out.call hb)
  clear hb HB2
  go_wp2_with fail
  by_cases hf_c : c.length ≤ 600
  rotate_left
  · have K := FewV (HB3.out.rd _ _ (List.Mem.tail _ (List.Mem.tail _ (List.Mem.head _))))
    rw [decide_eq_false hf_c] at K
    with_reducible refine K.mono ?_
    rintro e wx ⟨rfl, hb⟩
    clear K
    have HB9 := Lib.hid (HB3.out.call hb)
    clear hb
    go_wp2_with fail
    go_ret
    exact ⟨rfl, HB9.out.below⟩
  have K3 := FewV (HB3.out.rd _ _ (List.Mem.tail _ (List.Mem.tail _ (List.Mem.head _))))
  rw [decide_eq_true hf_c] at K3
  with_reducible refine (K3).mono ?_
  rintro e w4 ⟨rfl, hb⟩
  clear K3
  have HB4 := Lib.hid (HB3.out.call hb)
  clear hb HB3
  go_wp2_with fail
  by_cases ho_a : okV l
  rotate_left
  · have K := CheckV (HB4.out.rd _ _ (List.Mem.head _))
    rw [chV_bad ho_a] at K
    with_reducible refine K.mono ?_
    rintro e wx ⟨rfl, hb⟩
    clear K
    have HB9 := Lib.hid (HB4.out.call hb)
    clear hb
    go_wp2_with fail
    go_ret
    exact ⟨rfl, HB9.out.below⟩
  have K4 := CheckV (HB4.out.rd _ _ (List.Mem.head _))
  rw [chV_ok ho_a] at K4
  with_reducible refine (K4).mono ?_
  rintro e w5 ⟨rfl, hb⟩
  clear K4
  have HB5 := Lib.hid (HB4.out.call hb)
  clear hb HB4
  go_wp2_with fail
  by_cases ho_b : okV m
  rotate_left
  · have K := CheckV (HB5.out.rd _ _ (List.Mem.tail _ (List.Mem.head _)))
    rw [chV_bad ho_b] at K
    with_reducible refine K.mono ?_
    rintro e wx ⟨rfl, hb⟩
    clear K
    have HB9 := Lib.hid (HB5.out.call hb)
    clear hb
    go_wp2_with fail
    go_ret
    exact ⟨rfl, HB9.out.below⟩
  have K5 := CheckV (HB5.out.rd _ _ (List.Mem.tail _ (List.Mem.head _)))
  rw [chV_ok ho_b] at K5
  with_reducible refine (K5).mono ?_
  rintro e w6 ⟨rfl, hb⟩
  clear K5
  have HB6 := Lib.hid (HB5.out.call hb)
  clear hb HB5
  go_wp2_with fail
  by_cases ho_c : okV c
  rotate_left
  · have K := CheckV (HB6.out.rd _ _ (List.Mem.tail _ (List.Mem.tail _ (List.Mem.head _))))
    rw [chV_bad ho_c] at K
    with_reducible refine K.mono ?_
    rintro e wx ⟨rfl, hb⟩
    clear K
    have HB9 := Lib.hid (HB6.out.call hb)
    clear hb
    go_wp2_with fail
    go_ret
    exact ⟨rfl, HB9.out.below⟩
  have K6 := CheckV (HB6.out.rd _ _ (List.Mem.tail _ (List.Mem.tail _ (List.Mem.head _))))
  rw [chV_ok ho_c] at K6
  with_reducible refine (K6).mono ?_
  rintro e w7 ⟨rfl, hb⟩
  clear K6
  have HB7 := Lib.hid (HB6.out.call hb)
  clear hb HB6
  go_wp2_with fail
  have K7 := JoinV (HB7.out.rd _ _ (List.Mem.head _)) (HB7.out.rd _ _ (List.Mem.tail _ (List.Mem.head _))) (okV_few ho_a) (okV_few1 ho_b)
  rw [erR_ok ho_a ho_b, jnR_ok ho_a ho_b] at K7
  with_reducible refine (K7).mono ?_
  rintro e w8 ⟨v_j, rfl, hr, hb⟩
  clear K7
  have HB8 := Lib.hid (HB7.out.call hb)
  clear hb HB7
  have HB9 := Lib.hid (HB8.out.add hr)
  clear hr HB8
  go_wp2_with fail
  have K9 := MeetV (HB9.out.rd _ _ (List.Mem.tail _ (List.Mem.head _))) (HB9.out.rd _ _ (List.Mem.tail _ (List.Mem.tail _ (List.Mem.head _)))) (okV_few ho_a) (okV_few1 ho_b)
  rw [erR_ok ho_a ho_b, mtR_ok ho_a ho_b] at K9
  with_reducible refine (K9).mono ?_
  rintro e w10 ⟨v_k, rfl, hr, hb⟩
  clear K9
  have HB10 := Lib.hid (HB9.out.call hb)
  clear hb HB9
  have HB11 := Lib.hid (HB10.out.add hr)
  clear hr HB10
  go_wp2_with fail
  have K11 := CompareV (HB11.out.rd _ _ (List.Mem.tail _ (List.Mem.tail _ (List.Mem.head _)))) (HB11.out.rd _ _ (List.Mem.tail _ (List.Mem.tail _ (List.Mem.tail _ (List.Mem.tail _ (List.Mem.head _))))))
  rw [cmR_ok ho_a ho_c, erR_ok ho_a ho_c] at K11
  with_reducible refine (K11).mono ?_
  rintro e w12 ⟨rfl, hb⟩
  clear K11
  have HB12 := Lib.hid (HB11.out.call hb)
  clear hb HB11
  go_wp2_with fail
  have K12 := CompareV (HB12.out.rd _ _ (List.Mem.tail _ (List.Mem.tail _ (List.Mem.tail _ (List.Mem.head _))))) (HB12.out.rd _ _ (List.Mem.tail _ (List.Mem.tail _ (List.Mem.tail _ (List.Mem.tail _ (List.Mem.head _))))))
  rw [cmR_ok ho_b ho_c, erR_ok ho_b ho_c] at K12
  with_reducible refine (K12).mono ?_
  rintro e w13 ⟨rfl, hb⟩
  clear K12
  have HB13 := Lib.hid (HB12.out.call hb)
  clear hb HB12
  go_wp2_with fail
  have K13 := CompareV (HB13.out.rd _ _ (List.Mem.tail _ (List.Mem.head _))) (HB13.out.rd _ _ (List.Mem.tail _ (List.Mem.tail _ (List.Mem.tail _ (List.Mem.tail _ (List.Mem.head _))))))
  rw [cmR_ok (jnV_ok _ _ ho_a ho_b) ho_c, erR_ok (jnV_ok _ _ ho_a ho_b) ho_c] at K13
  with_reducible refine (K13).mono ?_
  rintro e w14 ⟨rfl, hb⟩
  clear K13
  have HB14 := Lib.hid (HB13.out.call hb)
  clear hb HB13
  go_wp2_with fail
  have K14 := CompareV (HB14.out.rd _ _ (List.Mem.head _)) (HB14.out.rd _ _ (List.Mem.tail _ (List.Mem.tail _ (List.Mem.tail _ (List.Mem.tail _ (List.Mem.head _))))))
  rw [cmR_ok (mtV_ok _ _ ho_a ho_b) ho_c, erR_ok (mtV_ok _ _ ho_a ho_b) ho_c] at K14
  with_reducible refine (K14).mono ?_
  rintro e w15 ⟨rfl, hb⟩
  clear K14
  have HB15 := Lib.hid (HB14.out.call hb)
  clear hb HB14
  have QJ := join_least ho_a ho_b ho_c
  have QM := meet_most ho_a ho_b ho_c
  rcases cmp4 m c with ⟨p3, p4, e3, -⟩ | ⟨p3, p4, e3, -⟩ | ⟨p3, p4, e3, -⟩ | ⟨p3, p4, e3, -⟩
  · have HJ := cmp_lo (QJ.2 ⟨p1, p3⟩)
    have HM := cmp_ng (fun h9 => p2 (QM.1 h9).1)
    clear QJ QM p1 p2 p3 p4
    rw [e3]
    clear e1 e3
    rcases HJ with e5 | e5
    · rw [e5]
      clear e5
      obtain ⟨zm, hzm⟩ := exEqD (cmpV (mtV l m) c)
      rw [hzm] at HM ⊢
      have f7 : (zm == 1) = false := beq_eq_false_iff_ne.2 (by omega)
      have f8 : (zm == 0) = false := beq_eq_false_iff_ne.2 (by omega)
      clear HM hzm
      go_wp2_with fail
      go_ret
      exact ⟨rfl, HB15.out.below⟩
    · rw [e5]
      clear e5
      obtain ⟨zm, hzm⟩ := exEqD (cmpV (mtV l m) c)
      rw [hzm] at HM ⊢
      have f7 : (zm == 1) = false := beq_eq_false_iff_ne.2 (by omega)
      have f8 : (zm == 0) = false := beq_eq_false_iff_ne.2 (by omega)
      clear HM hzm
      go_wp2_with fail
      go_ret
      exact ⟨rfl, HB15.out.below⟩
  · have HJ := cmp_lo (QJ.2 ⟨p1, p3⟩)
    have HM := cmp_ng (fun h9 => p2 (QM.1 h9).1)
    clear QJ QM p1 p2 p3 p4
    rw [e3]
    clear e1 e3
    rcases HJ with e5 | e5
    · rw [e5]
      clear e5
      obtain ⟨zm, hzm⟩ := exEqD (cmpV (mtV l m) c)
      rw [hzm] at HM ⊢
      have f7 : (zm == 1) = false := beq_eq_false_iff_ne.2 (by omega)
      have f8 : (zm == 0) = false := beq_eq_false_iff_ne.2 (by omega)
      clear HM hzm
      go_wp2_with fail
      go_ret
      exact ⟨rfl, HB15.out.below⟩
    · rw [e5]
      clear e5
      obtain ⟨zm, hzm⟩ := exEqD (cmpV (mtV l m) c)
      rw [hzm] at HM ⊢
      have f7 : (zm == 1) = false := beq_eq_false_iff_ne.2 (by omega)
      have f8 : (zm == 0) = false := beq_eq_false_iff_ne.2 (by omega)
      clear HM hzm
      go_wp2_with fail
      go_ret
      exact ⟨rfl, HB15.out.below⟩
  · have HJ := cmp_hi (fun h9 => p3 (QJ.1 h9).2)
    have HM := cmp_ng (fun h9 => p2 (QM.1 h9).1)
    clear QJ QM p1 p2 p3 p4
    rw [e3]
    clear e1 e3
    obtain ⟨zj, hzj⟩ := exEqD (cmpV (jnV l m) c)
    rw [hzj] at HJ ⊢
    have f5 : (zj == -1) = false := beq_eq_false_iff_ne.2 (by omega)
    have f6 : (zj == 0) = false := beq_eq_false_iff_ne.2 (by omega)
    clear HJ hzj
    obtain ⟨zm, hzm⟩ := exEqD (cmpV (mtV l m) c)
    rw [hzm] at HM ⊢
    have f7 : (zm == 1) = false := beq_eq_false_iff_ne.2 (by omega)
    have f8 : (zm == 0) = false := beq_eq_false_iff_ne.2 (by omega)
    clear HM hzm
    go_wp2_with fail
    go_ret
    exact ⟨rfl, HB15.out.below⟩
  · have HJ := cmp_hi (fun h9 => p3 (QJ.1 h9).2)
    have HM := cmp_ng (fun h9 => p2 (QM.1 h9).1)
    clear QJ QM p1 p2 p3 p4
    rw [e3]
    clear e1 e3
    obtain ⟨zj, hzj⟩ := exEqD (cmpV (jnV l m) c)
    rw [hzj] at HJ ⊢
    have f5 : (zj == -1) = false := beq_eq_false_iff_ne.2 (by omega)
    have f6 : (zj == 0) = false := beq_eq_false_iff_ne.2 (by omega)
    clear HJ hzj
    obtain ⟨zm, hzm⟩ := exEqD (cmpV (mtV l m) c)
    rw [hzm] at HM ⊢
    have f7 : (zm == 1) = false := beq_eq_false_iff_ne.2 (by omega)
    have f8 : (zm == 0) = false := beq_eq_false_iff_ne.2 (by omega)
    clear HM hzm
    go_wp2_with fail
    go_ret
    exact ⟨rfl, HB15.out.below⟩

set_option maxRecDepth 100000 in
set_option maxHeartbeats 4000000 in
theorem vectorLeast_walk2 {va : Value} {l : List Dt} {vb : Value} {m : List Dt} {vc : Value} {c : List Dt} (w : World) (h0 : RsV w.heap.size w va l) (h1 : RsV w.heap.size w vb m) (h2 : RsV w.heap.size w vc c) (p1 : ¬ leV l c) (p2 : leV c l) (e1 : cmpV l c = 1) :
    Calls Try.prog 8 #[va, vb, vc] w fun e w' => e = .returned (.bool true) ∧ Below w.heap.size w w' := by
  have HB0 := Lib.hid ((((DX.start w).add h2).add h1).add h0)
  clear h0 h1 h2
  go_enter Try.func8, Try.ntmps8
  go_wp2_with fail
  with_reducible refine (sane12_any _).mono ?_
  rintro e w1 ⟨rfl, hb⟩
  have HB1 := Lib.hid (HB0.out.call hb)
  clear hb HB0
  go_wp2_with fail
  by_cases hf_a : l.length ≤ 600
  rotate_left
  · have K := FewV (HB1.out.rd _ _ (List.Mem.head _))
    rw [decide_eq_false hf_a] at K
    with_reducible refine K.mono ?_
    rintro e wx ⟨rfl, hb⟩
    clear K
    have HB9 := Lib.hid (HB1.out.call hb)
    clear hb
    go_wp2_with fail
    go_ret
    exact ⟨rfl, HB9.out.below⟩
  have K1 := FewV (HB1.out.rd _ _ (List.Mem.head _))
  rw [decide_eq_true hf_a] at K1
  with_reducible refine (K1).mono ?_
  rintro e w2 ⟨rfl, hb⟩
  clear K1
  have HB2 := Lib.hid (HB1.out.call hb)
  clear hb HB1
  go_wp2_with fail
  by_cases hf_b : m.length ≤ 600
  rotate_left
  · have K := FewV (HB2.out.rd _ _ (List.Mem.tail _ (List.Mem.head _)))
    rw [decide_eq_false hf_b] at K
    with_reducible refine K.mono ?_
    rintro e wx ⟨rfl, hb⟩
    clear K
    have HB9 := Lib.hid (HB2.out.call hb)
    clear hb
    go_wp2_with fail
    go_ret
    exact ⟨rfl, HB9.out.below⟩
  have K2 := FewV (HB2.out.rd _ _ (List.Mem.tail _ (List.Mem.head _)))
  rw [decide_eq_true hf_b] at K2
  with_reducible refine (K2).mono ?_
  rintro e w3 ⟨rfl, hb⟩
  clear K2
  have HB3 := Lib.hid (HB2.out.call hb)
  clear hb HB2
  go_wp2_with fail
  by_cases hf_c : c.length ≤ 600
  rotate_left
  · have K := FewV (HB3.out.rd _ _ (List.Mem.tail _ (List.Mem.tail _ (List.Mem.head _))))
    rw [decide_eq_false hf_c] at K
    with_reducible refine K.mono ?_
    rintro e wx ⟨rfl, hb⟩
    clear K
    have HB9 := Lib.hid (HB3.out.call hb)
    clear hb
    go_wp2_with fail
    go_ret
    exact ⟨rfl, HB9.out.below⟩
  have K3 := FewV (HB3.out.rd _ _ (List.Mem.tail _ (List.Mem.tail _ (List.Mem.head _))))
  rw [decide_eq_true hf_c] at K3
  with_reducible refine (K3).mono ?_
  rintro e w4 ⟨rfl, hb⟩
  clear K3
  have HB4 := Lib.hid (HB3.out.call hb)
  clear hb HB3
  go_wp2_with fail
  by_cases ho_a : okV l
  rotate_left
  · have K := CheckV (HB4.out.rd _ _ (List.Mem.head _))
    rw [chV_bad ho_a] at K
    with_reducible refine K.mono ?_
    rintro e wx ⟨rfl, hb⟩
    clear K
    have HB9 := Lib.hid (HB4.out.call hb)
    clear hb
    go_wp2_with fail
    go_ret
    exact ⟨rfl, HB9.out.below⟩
  have K4 := CheckV (HB4.out.rd _ _ (List.Mem.head _))
  rw [chV_ok ho_a] at K4
  with_reducible refine (K4).mono ?_
  rintro e w5 ⟨rfl, hb⟩
  clear K4
  have HB5 := Lib.hid (HB4.out.call hb)
  clear hb HB4
  go_wp2_with fail
  by_cases ho_b : okV m
  rotate_left
  · have K := CheckV (HB5.out.rd _ _ (List.Mem.tail _ (List.Mem.head _)))
    rw [chV_bad ho_b] at K
    with_reducible refine K.mono ?_
    rintro e wx ⟨rfl, hb⟩
    clear K
    have HB9 := Lib.hid (HB5.out.call hb)
    clear hb
    go_wp2_with fail
    go_ret
    exact ⟨rfl, HB9.out.below⟩
  have K5 := CheckV (HB5.out.rd _ _ (List.Mem.tail _ (List.Mem.head _)))
  rw [chV_ok ho_b] at K5
  with_reducible refine (K5).mono ?_
  rintro e w6 ⟨rfl, hb⟩
  clear K5
  have HB6 := Lib.hid (HB5.out.call hb)
  clear hb HB5
  go_wp2_with fail
  by_cases ho_c : okV c
  rotate_left
  · have K := CheckV (HB6.out.rd _ _ (List.Mem.tail _ (List.Mem.tail _ (List.Mem.head _))))
    rw [chV_bad ho_c] at K
    with_reducible refine K.mono ?_
    rintro e wx ⟨rfl, hb⟩
    clear K
    have HB9 := Lib.hid (HB6.out.call hb)
    clear hb
    go_wp2_with fail
    go_ret
    exact ⟨rfl, HB9.out.below⟩
  have K6 := CheckV (HB6.out.rd _ _ (List.Mem.tail _ (List.Mem.tail _ (List.Mem.head _))))
  rw [chV_ok ho_c] at K6
  with_reducible refine (K6).mono ?_
  rintro e w7 ⟨rfl, hb⟩
  clear K6
  have HB7 := Lib.hid (HB6.out.call hb)
  clear hb HB6
  go_wp2_with fail
  have K7 := JoinV (HB7.out.rd _ _ (List.Mem.head _)) (HB7.out.rd _ _ (List.Mem.tail _ (List.Mem.head _))) (okV_few ho_a) (okV_few1 ho_b)
  rw [erR_ok ho_a ho_b, jnR_ok ho_a ho_b] at K7
  with_reducible refine (K7).mono ?_
  rintro e w8 ⟨v_j, rfl, hr, hb⟩
  clear K7
  have HB8 := Lib.hid (HB7.out.call hb)
  clear hb HB7
  have HB9 := Lib.hid (HB8.out.add hr)
  clear hr HB8
  go_wp2_with fail
  have K9 := MeetV (HB9.out.rd _ _ (List.Mem.tail _ (List.Mem.head _))) (HB9.out.rd _ _ (List.Mem.tail _ (List.Mem.tail _ (List.Mem.head _)))) (okV_few ho_a) (okV_few1 ho_b)
  rw [erR_ok ho_a ho_b, mtR_ok ho_a ho_b] at K9
  with_reducible refine (K9).mono ?_
  rintro e w10 ⟨v_k, rfl, hr, hb⟩
  clear K9
  have HB10 := Lib.hid (HB9.out.call hb)
  clear hb HB9
  have HB11 := Lib.hid (HB10.out.add hr)
  clear hr HB10
  go_wp2_with fail
  have K11 := CompareV (HB11.out.rd _ _ (List.Mem.tail _ (List.Mem.tail _ (List.Mem.head _)))) (HB11.out.rd _ _ (List.Mem.tail _ (List.Mem.tail _ (List.Mem.tail _ (List.Mem.tail _ (List.Mem.head _))))))
  rw [cmR_ok ho_a ho_c, erR_ok ho_a ho_c] at K11
  with_reducible refine (K11).mono ?_
  rintro e w12 ⟨rfl, hb⟩
  clear K11
  have HB12 := Lib.hid (HB11.out.call hb)
  clear hb HB11
  go_wp2_with fail
  have K12 := CompareV (HB12.out.rd _ _ (List.Mem.tail _ (List.Mem.tail _ (List.Mem.tail _ (List.Mem.head _))))) (HB12.out.rd _ _ (List.Mem.tail _ (List.Mem.tail _ (List.Mem.tail _ (List.Mem.tail _ (List.Mem.head _))))))
  rw [cmR_ok ho_b ho_c, erR_ok ho_b ho_c] at K12
  with_reducible refine (K12).mono ?_
  rintro e w13 ⟨rfl, hb⟩
  clear K12
  have HB13 := Lib.hid (HB12.out.call hb)
  clear hb HB12
  go_wp2_with fail
  have K13 := CompareV (HB13.out.rd _ _ (List.Mem.tail _ (List.Mem.head _))) (HB13.out.rd _ _ (List.Mem.tail _ (List.Mem.tail _ (List.Mem.tail _ (List.Mem.tail _ (List.Mem.head _))))))
  rw [cmR_ok (jnV_ok _ _ ho_a ho_b) ho_c, erR_ok (jnV_ok _ _ ho_a ho_b) ho_c] at K13
  with_reducible refine (K13).mono ?_
  rintro e w14 ⟨rfl, hb⟩
  clear K13
  have HB14 := Lib.hid (HB13.out.call hb)
  clear hb HB13
  go_wp2_with fail
  have K14 := CompareV (HB14.out.rd _ _ (List.Mem.head _)) (HB14.out.rd _ _ (List.Mem.tail _ (List.Mem.tail _ (List.Mem.tail _ (List.Mem.tail _ (List.Mem.head _))))))
  rw [cmR_ok (mtV_ok _ _ ho_a ho_b) ho_c, erR_ok (mtV_ok _ _ ho_a ho_b) ho_c] at K14
  with_reducible refine (K14).mono ?_
  rintro e w15 ⟨rfl, hb⟩
  clear K14
  have HB15 := Lib.hid (HB14.out.call hb)
  clear hb HB14
  have QJ := join_least ho_a ho_b ho_c
  have QM := meet_most ho_a ho_b ho_c
  rcases cmp4 m c with ⟨p3, p4, e3, -⟩ | ⟨p3, p4, e3, -⟩ | ⟨p3, p4, e3, -⟩ | ⟨p3, p4, e3, -⟩
  · have HJ := cmp_hi (fun h9 => p1 (QJ.1 h9).1)
    have HM := cmp_ge (QM.2 ⟨p2, p4⟩)
    clear QJ QM p1 p2 p3 p4
    rw [e3]
    clear e1 e3
    obtain ⟨zj, hzj⟩ := exEqD (cmpV (jnV l m) c)
    rw [hzj] at HJ ⊢
    have f5 : (zj == -1) = false := beq_eq_false_iff_ne.2 (by omega)
    have f6 : (zj == 0) = false := beq_eq_false_iff_ne.2 (by omega)
    clear HJ hzj
    rcases HM with e6 | e6
    · rw [e6]
      clear e6
      go_wp2_with fail
      go_ret
      exact ⟨rfl, HB15.out.below⟩
    · rw [e6]
      clear e6
      go_wp2_with fail
      go_ret
      exact ⟨rfl, HB15.out.below⟩
  · have HJ := cmp_hi (fun h9 => p1 (QJ.1 h9).1)
    have HM := cmp_ng (fun h9 => p4 (QM.1 h9).2)
    clear QJ QM p1 p2 p3 p4
    rw [e3]
    clear e1 e3
    obtain ⟨zj, hzj⟩ := exEqD (cmpV (jnV l m) c)
    rw [hzj] at HJ ⊢
    have f5 : (zj == -1) = false := beq_eq_false_iff_ne.2 (by omega)
    have f6 : (zj == 0) = false := beq_eq_false_iff_ne.2 (by omega)
    clear HJ hzj
    obtain ⟨zm, hzm⟩ := exEqD (cmpV (mtV l m) c)
    rw [hzm] at HM ⊢
    have f7 : (zm == 1) = false := beq_eq_false_iff_ne.2 (by omega)
    have f8 : (zm == 0) = false := beq_eq_false_iff_ne.2 (by omega)
    clear HM hzm
    go_wp2_with fail
    go_ret
    exact ⟨rfl, HB15.out.below⟩
  · have HJ := cmp_hi (fun h9 => p1 (QJ.1 h9).1)
    have HM := cmp_ge (QM.2 ⟨p2, p4⟩)
    clear QJ QM p1 p2 p3 p4
    rw [e3]
    clear e1 e3
    obtain ⟨zj, hzj⟩ := exEqD (cmpV (jnV l m) c)
    rw [hzj] at HJ ⊢
    have f5 : (zj == -1) = false := beq_eq_false_iff_ne.2 (by omega)
    have f6 : (zj == 0) = false := beq_eq_false_iff_ne.2 (by omega)
    clear HJ hzj
    rcases HM with e6 | e6
    · rw [e6]
      clear e6
      go_wp2_with fail
      go_ret
      exact ⟨rfl, HB15.out.below⟩
    · rw [e6]
      clear e6
      go_wp2_with fail
      go_ret
      exact ⟨rfl, HB15.out.below⟩
  · have HJ := cmp_hi (fun h9 => p1 (QJ.1 h9).1)
    have HM := cmp_ng (fun h9 => p4 (QM.1 h9).2)
    clear QJ QM p1 p2 p3 p4
    rw [e3]
    clear e1 e3
    obtain ⟨zj, hzj⟩ := exEqD (cmpV (jnV l m) c)
    rw [hzj] at HJ ⊢
    have f5 : (zj == -1) = false := beq_eq_false_iff_ne.2 (by omega)
    have f6 : (zj == 0) = false := beq_eq_false_iff_ne.2 (by omega)
    clear HJ hzj
    obtain ⟨zm, hzm⟩ := exEqD (cmpV (mtV l m) c)
    rw [hzm] at HM ⊢
    have f7 : (zm == 1) = false := beq_eq_false_iff_ne.2 (by omega)
    have f8 : (zm == 0) = false := beq_eq_false_iff_ne.2 (by omega)
    clear HM hzm
    go_wp2_with fail
    go_ret
    exact ⟨rfl, HB15.out.below⟩

set_option maxRecDepth 100000 in
set_option maxHeartbeats 4000000 in
theorem vectorLeast_walk3 {va : Value} {l : List Dt} {vb : Value} {m : List Dt} {vc : Value} {c : List Dt} (w : World) (h0 : RsV w.heap.size w va l) (h1 : RsV w.heap.size w vb m) (h2 : RsV w.heap.size w vc c) (p1 : ¬ leV l c) (p2 : ¬ leV c l) (e1 : cmpV l c = 2) :
    Calls Try.prog 8 #[va, vb, vc] w fun e w' => e = .returned (.bool true) ∧ Below w.heap.size w w' := by
  have HB0 := Lib.hid ((((DX.start w).add h2).add h1).add h0)
  clear h0 h1 h2
  go_enter Try.func8, Try.ntmps8
  go_wp2_with fail
  with_reducible refine (sane12_any _).mono ?_
  rintro e w1 ⟨rfl, hb⟩
  have HB1 := Lib.hid (HB0.out.call hb)
  clear hb HB0
  go_wp2_with fail
  by_cases hf_a : l.length ≤ 600
  rotate_left
  · have K := FewV (HB1.out.rd _ _ (List.Mem.head _))
    rw [decide_eq_false hf_a] at K
    with_reducible refine K.mono ?_
    rintro e wx ⟨rfl, hb⟩
    clear K
    have HB9 := Lib.hid (HB1.out.call hb)
    clear hb
    go_wp2_with fail
    go_ret
    exact ⟨rfl, HB9.out.below⟩
  have K1 := FewV (HB1.out.rd _ _ (List.Mem.head _))
  rw [decide_eq_true hf_a] at K1
  with_reducible refine (K1).mono ?_
  rintro e w2 ⟨rfl, hb⟩
  clear K1
  have HB2 := Lib.hid (HB1.out.call hb)
  clear hb HB1
  go_wp2_with fail
  by_cases hf_b : m.length ≤ 600
  rotate_left
  · have K := FewV (HB2.out.rd _ _ (List.Mem.tail _ (List.Mem.head _)))
    rw [decide_eq_false hf_b] at K
    with_reducible refine K.mono ?_
    rintro e wx ⟨rfl, hb⟩
    clear K
    have HB9 := Lib.hid (HB2.out.call hb)
    clear hb
    go_wp2_with fail
    go_ret
    exact ⟨rfl, HB9.out.below⟩
  have K2 := FewV (HB2.out.rd _ _ (List.Mem.tail _ (List.Mem.head _)))
  rw [decide_eq_true hf_b] at K2
  with_reducible refine (K2).mono ?_
  rintro e w3 ⟨rfl, hb⟩
  clear K2
  have HB3 := Lib.hid (HB2.out.call hb)
  clear hb HB2
  go_wp2_with fail
  by_cases hf_c : c.length ≤ 600
  rotate_left
  · have K := FewV (HB3.out.rd _ _ (List.Mem.tail _ (List.Mem.tail _ (List.Mem.head _))))
    rw [decide_eq_false hf_c] at K
    with_reducible refine K.mono ?_
    rintro e wx ⟨rfl, hb⟩
    clear K
    have HB9 := Lib.hid (HB3.out.call hb)
    clear hb
    go_wp2_with fail
    go_ret
    exact ⟨rfl, HB9.out.below⟩
  have K3 := FewV (HB3.out.rd _ _ (List.Mem.tail _ (List.Mem.tail _ (List.Mem.head _))))
  rw [decide_eq_true hf_c] at K3
  with_reducible refine (K3).mono ?_
  rintro e w4 ⟨rfl, hb⟩
  clear K3
  have HB4 := Lib.hid (HB3.out.call hb)
  clear hb HB3
  go_wp2_with fail
  by_cases ho_a : okV l
  rotate_left
  · have K := CheckV (HB4.out.rd _ _ (List.Mem.head _))
    rw [chV_bad ho_a] at K
    with_reducible refine K.mono ?_
    rintro e wx ⟨rfl, hb⟩
    clear K
    have HB9 := Lib.hid (HB4.out.call hb)
    clear hb
    go_wp2_with fail
    go_ret
    exact ⟨rfl, HB9.out.below⟩
  have K4 := CheckV (HB4.out.rd _ _ (List.Mem.head _))
  rw [chV_ok ho_a] at K4
  with_reducible refine (K4).mono ?_
  rintro e w5 ⟨rfl, hb⟩
  clear K4
  have HB5 := Lib.hid (HB4.out.call hb)
  clear hb HB4
  go_wp2_with fail
  by_cases ho_b : okV m
  rotate_left
  · have K := CheckV (HB5.out.rd _ _ (List.Mem.tail _ (List.Mem.head _)))
    rw [chV_bad ho_b] at K
    with_reducible refine K.mono ?_
    rintro e wx ⟨rfl, hb⟩
    clear K
    have HB9 := Lib.hid (HB5.out.call hb)
    clear hb
    go_wp2_with fail
    go_ret
    exact ⟨rfl, HB9.out.below⟩
  have K5 := CheckV (HB5.out.rd _ _ (List.Mem.tail _ (List.Mem.head _)))
  rw [chV_ok ho_b] at K5
  with_reducible refine (K5).mono ?_
  rintro e w6 ⟨rfl, hb⟩
  clear K5
  have HB6 := Lib.hid (HB5.out.call hb)
  clear hb HB5
  go_wp2_with fail
  by_cases ho_c : okV c
  rotate_left
  · have K := CheckV (HB6.out.rd _ _ (List.Mem.tail _ (List.Mem.tail _ (List.Mem.head _))))
    rw [chV_bad ho_c] at K
    with_reducible refine K.mono ?_
    rintro e wx ⟨rfl, hb⟩
    clear K
    have HB9 := Lib.hid (HB6.out.call hb)
    clear hb
    go_wp2_with fail
    go_ret
    exact ⟨rfl, HB9.out.below⟩
  have K6 := CheckV (HB6.out.rd _ _ (List.Mem.tail _ (List.Mem.tail _ (List.Mem.head _))))
  rw [chV_ok ho_c] at K6
  with_reducible refine (K6).mono ?_
  rintro e w7 ⟨rfl, hb⟩
  clear K6
  have HB7 := Lib.hid (HB6.out.call hb)
  clear hb HB6
  go_wp2_with fail
  have K7 := JoinV (HB7.out.rd _ _ (List.Mem.head _)) (HB7.out.rd _ _ (List.Mem.tail _ (List.Mem.head _))) (okV_few ho_a) (okV_few1 ho_b)
  rw [erR_ok ho_a ho_b, jnR_ok ho_a ho_b] at K7
  with_reducible refine (K7).mono ?_
  rintro e w8 ⟨v_j, rfl, hr, hb⟩
  clear K7
  have HB8 := Lib.hid (HB7.out.call hb)
  clear hb HB7
  have HB9 := Lib.hid (HB8.out.add hr)
  clear hr HB8
  go_wp2_with fail
  have K9 := MeetV (HB9.out.rd _ _ (List.Mem.tail _ (List.Mem.head _))) (HB9.out.rd _ _ (List.Mem.tail _ (List.Mem.tail _ (List.Mem.head _)))) (okV_few ho_a) (okV_few1 ho_b)
  rw [erR_ok ho_a ho_b, mtR_ok ho_a ho_b] at K9
  with_reducible refine (K9).mono ?_
  rintro e w10 ⟨v_k, rfl, hr, hb⟩
  clear K9
  have HB10 := Lib.hid (HB9.out.call hb)
  clear hb HB9
  have HB11 := Lib.hid (HB10.out.add hr)
  clear hr HB10
  go_wp2_with fail
  have K11 := CompareV (HB11.out.rd _ _ (List.Mem.tail _ (List.Mem.tail _ (List.Mem.head _)))) (HB11.out.rd _ _ (List.Mem.tail _ (List.Mem.tail _ (List.Mem.tail _ (List.Mem.tail _ (List.Mem.head _))))))
  rw [cmR_ok ho_a ho_c, erR_ok ho_a ho_c] at K11
  with_reducible refine (K11).mono ?_
  rintro e w12 ⟨rfl, hb⟩
  clear K11
  have HB12 := Lib.hid (HB11.out.call hb)
  clear hb HB11
  go_wp2_with fail
  have K12 := CompareV (HB12.out.rd _ _ (List.Mem.tail _ (List.Mem.tail _ (List.Mem.tail _ (List.Mem.head _))))) (HB12.out.rd _ _ (List.Mem.tail _ (List.Mem.tail _ (List.Mem.tail _ (List.Mem.tail _ (List.Mem.head _))))))
  rw [cmR_ok ho_b ho_c, erR_ok ho_b ho_c] at K12
  with_reducible refine (K12).mono ?_
  rintro e w13 ⟨rfl, hb⟩
  clear K12
  have HB13 := Lib.hid (HB12.out.call hb)
  clear hb HB12
  go_wp2_with fail
  have K13 := CompareV (HB13.out.rd _ _ (List.Mem.tail _ (List.Mem.head _))) (HB13.out.rd _ _ (List.Mem.tail _ (List.Mem.tail _ (List.Mem.tail _ (List.Mem.tail _ (List.Mem.head _))))))
  rw [cmR_ok (jnV_ok _ _ ho_a ho_b) ho_c, erR_ok (jnV_ok _ _ ho_a ho_b) ho_c] at K13
  with_reducible refine (K13).mono ?_
  rintro e w14 ⟨rfl, hb⟩
  clear K13
  have HB14 := Lib.hid (HB13.out.call hb)
  clear hb HB13
  go_wp2_with fail
  have K14 := CompareV (HB14.out.rd _ _ (List.Mem.head _)) (HB14.out.rd _ _ (List.Mem.tail _ (List.Mem.tail _ (List.Mem.tail _ (List.Mem.tail _ (List.Mem.head _))))))
  rw [cmR_ok (mtV_ok _ _ ho_a ho_b) ho_c, erR_ok (mtV_ok _ _ ho_a ho_b) ho_c] at K14
  with_reducible refine (K14).mono ?_
  rintro e w15 ⟨rfl, hb⟩
  clear K14
  have HB15 := Lib.hid (HB14.out.call hb)
  clear hb HB14
  have QJ := join_least ho_a ho_b ho_c
  have QM := meet_most ho_a ho_b ho_c
  rcases cmp4 m c with ⟨p3, p4, e3, -⟩ | ⟨p3, p4, e3, -⟩ | ⟨p3, p4, e3, -⟩ | ⟨p3, p4, e3, -⟩
  · have HJ := cmp_hi (fun h9 => p1 (QJ.1 h9).1)
    have HM := cmp_ng (fun h9 => p2 (QM.1 h9).1)
    clear QJ QM p1 p2 p3 p4
    rw [e3]
    clear e1 e3
    obtain ⟨zj, hzj⟩ := exEqD (cmpV (jnV l m) c)
    rw [hzj] at HJ ⊢
    have f5 : (zj == -1) = false := beq_eq_false_iff_ne.2 (by omega)
    have f6 : (zj == 0) = false := beq_eq_false_iff_ne.2 (by omega)
    clear HJ hzj
    obtain ⟨zm, hzm⟩ := exEqD (cmpV (mtV l m) c)
    rw [hzm] at HM ⊢
    have f7 : (zm == 1) = false := beq_eq_false_iff_ne.2 (by omega)
    have f8 : (zm == 0) = false := beq_eq_false_iff_ne.2 (by omega)
    clear HM hzm
    go_wp2_with fail
    go_ret
    exact ⟨rfl, HB15.out.below⟩
  · have HJ := cmp_hi (fun h9 => p1 (QJ.1 h9).1)
    have HM := cmp_ng (fun h9 => p2 (QM.1 h9).1)
    clear QJ QM p1 p2 p3 p4
    rw [e3]
    clear e1 e3
    obtain ⟨zj, hzj⟩ := exEqD (cmpV (jnV l m) c)
    rw [hzj] at HJ ⊢
    have f5 : (zj == -1) = false := beq_eq_false_iff_ne.2 (by omega)
    have f6 : (zj == 0) = false := beq_eq_false_iff_ne.2 (by omega)
    clear HJ hzj
    obtain ⟨zm, hzm⟩ := exEqD (cmpV (mtV l m) c)
    rw [hzm] at HM ⊢
    have f7 : (zm == 1) = false := beq_eq_false_iff_ne.2 (by omega)
    have f8 : (zm == 0) = false := beq_eq_false_iff_ne.2 (by omega)
    clear HM hzm
    go_wp2_with fail
    go_ret
    exact ⟨rfl, HB15.out.below⟩
  · have HJ := cmp_hi (fun h9 => p1 (QJ.1 h9).1)
    have HM := cmp_ng (fun h9 => p2 (QM.1 h9).1)
    clear QJ QM p1 p2 p3 p4
    rw [e3]
    clear e1 e3
    obtain ⟨zj, hzj⟩ := exEqD (cmpV (jnV l m) c)
    rw [hzj] at HJ ⊢
    have f5 : (zj == -1) = false := beq_eq_false_iff_ne.2 (by omega)
    have f6 : (zj == 0) = false := beq_eq_false_iff_ne.2 (by omega)
    clear HJ hzj
    obtain ⟨zm, hzm⟩ := exEqD (cmpV (mtV l m) c)
    rw [hzm] at HM ⊢
    have f7 : (zm == 1) = false := beq_eq_false_iff_ne.2 (by omega)
    have f8 : (zm == 0) = false := beq_eq_false_iff_ne.2 (by omega)
    clear HM hzm
    go_wp2_with fail
    go_ret
    exact ⟨rfl, HB15.out.below⟩
  · have HJ := cmp_hi (fun h9 => p1 (QJ.1 h9).1)
    have HM := cmp_ng (fun h9 => p2 (QM.1 h9).1)
    clear QJ QM p1 p2 p3 p4
    rw [e3]
    clear e1 e3
    obtain ⟨zj, hzj⟩ := exEqD (cmpV (jnV l m) c)
    rw [hzj] at HJ ⊢
    have f5 : (zj == -1) = false := beq_eq_false_iff_ne.2 (by omega)
    have f6 : (zj == 0) = false := beq_eq_false_iff_ne.2 (by omega)
    clear HJ hzj
    obtain ⟨zm, hzm⟩ := exEqD (cmpV (mtV l m) c)
    rw [hzm] at HM ⊢
    have f7 : (zm == 1) = false := beq_eq_false_iff_ne.2 (by omega)
    have f8 : (zm == 0) = false := beq_eq_false_iff_ne.2 (by omega)
    clear HM hzm
    go_wp2_with fail
    go_ret
    exact ⟨rfl, HB15.out.below⟩
theorem vectorLeast_walk {va : Value} {l : List Dt} {vb : Value} {m : List Dt} {vc : Value} {c : List Dt} (w : World) (h0 : RsV w.heap.size w va l) (h1 : RsV w.heap.size w vb m) (h2 : RsV w.heap.size w vc c) :
    Calls Try.prog 8 #[va, vb, vc] w fun e w' => e = .returned (.bool true) ∧ Below w.heap.size w w' := by
  rcases cmp4 l c with ⟨p1, p2, e1, -⟩ | ⟨p1, p2, e1, -⟩ | ⟨p1, p2, e1, -⟩ | ⟨p1, p2, e1, -⟩
  · exact vectorLeast_walk0 w h0 h1 h2 p1 p2 e1
  · exact vectorLeast_walk1 w h0 h1 h2 p1 p2 e1
  · exact vectorLeast_walk2 w h0 h1 h2 p1 p2 e1
  · exact vectorLeast_walk3 w h0 h1 h2 p1 p2 e1
end Go.Proofs.Ytfdfaajjlangjaa
