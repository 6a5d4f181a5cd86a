/-
  Statements about vector: Join, Meet and Compare agree with the reference; the lattice.
-/
import Derived.Test.YtfdfaajjlangjaaMu
namespace Go.Proofs.Ytfdfaajjlangjaa
open Go.RowKit
set_option linter.unusedVariables false
set_option linter.unusedSimpArgs false

theorem okV_len : ∀ {l : List Dt}, okV l → ∀ k : Nat, (∀ e ∈ l, (k : Int) ≤ e.1) → k ≤ 512 → l.length + k ≤ 512
  | [], _, k, _, hk => by simpa using hk
  | d :: r, h, k, hl, hk => by
    have h1 := h.1
    unfold dotP at h1
    have h2 := hl d (List.mem_cons_self ..)
    have ih := okV_len (l := r) h.2.2 (k + 1) (fun e he => by have := h.2.1 e he; push_cast; omega) (by omega)
    simp only [List.length_cons]
    omega
theorem okV_few {l : List Dt} (h : okV l) : l.length ≤ 600 := by
  have := okV_len h 0 (fun e he => (okV_dot h e he).1) (by omega)
  omega
theorem okV_few1 {l : List Dt} (h : okV l) : l.length ≤ 601 := Nat.le_trans (okV_few h) (by omega)
theorem dec_refl (l : List Dt) : decide (l = l) = true := decide_eq_true rfl

set_option maxRecDepth 100000 in
set_option maxHeartbeats 4000000 in
theorem vectorJoinsSpec_walk {va : Value} {l : List Dt} {vb : Value} {m : List Dt} (w : World) (h0 : RsV w.heap.size w va l) (h1 : RsV w.heap.size w vb m) :
    Calls Try.prog 4 #[va, vb] w fun e w' => e = .returned (.bool true) ∧ Below w.heap.size w w' := by
  have HB0 := Lib.hid (((DX.start w).add h1).add h0)
  clear h0 h1
  go_enter Try.func4, Try.ntmps4
  go_wp2_with fail
  with_reducible refine (sane12_any _).mono ?_
  rintro e w1 ⟨rfl, hb⟩
  have HB1 := Lib.hid (HB0.out.call hb)
  clear hb HB0
  go_wp2_with fail
  by_cases hf_a : l.length ≤ 600
  rotate_left
  · have K := FewV (HB1.out.rd _ _ (List.Mem.head _))
    rw [decide_eq_false hf_a] at K
    with_reducible refine K.mono ?_
    rintro e wx ⟨rfl, hb⟩
    clear K
    have HB9 := Lib.hid (HB1.out.call hb)
    clear hb
    go_wp2_with fail
    go_ret
    exact ⟨rfl, HB9.out.below⟩
  have K1 := FewV (HB1.out.rd _ _ (List.Mem.head _))
  rw [decide_eq_true hf_a] at K1
  with_reducible refine (K1).mono ?_
  rintro e w2 ⟨rfl, hb⟩
  clear K1
  have HB2 := Lib.hid (HB1.out.call hb)
  clear hb HB1
  go_wp2_with fail
  by_cases hf_b : m.length ≤ 600
  rotate_left
  · have K := FewV (HB2.out.rd _ _ (List.Mem.tail _ (List.Mem.head _)))
    rw [decide_eq_false hf_b] at K
    with_reducible refine K.mono ?_
    rintro e wx ⟨rfl, hb⟩
    clear K
    have HB9 := Lib.hid (HB2.out.call hb)
    clear hb
    go_wp2_with fail
    go_ret
    exact ⟨rfl, HB9.out.below⟩
  have K2 := FewV (HB2.out.rd _ _ (List.Mem.tail _ (List.Mem.head _)))
  rw [decide_eq_true hf_b] at K2
  with_reducible refine (K2).mono ?_
  rintro e w3 ⟨rfl, hb⟩
  clear K2
  have HB3 := Lib.hid (HB2.out.call hb)
  clear hb HB2
  go_wp2_with fail
  with_reducible refine (JoinV (HB3.out.rd _ _ (List.Mem.head _)) (HB3.out.rd _ _ (List.Mem.tail _ (List.Mem.head _))) hf_a (Nat.le_succ_of_le hf_b)).mono ?_
  rintro e w4 ⟨vj, rfl, hr, hb⟩
  have HB4 := Lib.hid (HB3.out.call hb)
  clear hb HB3
  have HB5 := Lib.hid (HB4.out.add hr)
  clear hr HB4
  go_wp2_with fail
  with_reducible refine (rJoinV (HB5.out.rd _ _ (List.Mem.tail _ (List.Mem.head _))) (HB5.out.rd _ _ (List.Mem.tail _ (List.Mem.tail _ (List.Mem.head _)))) hf_a (Nat.le_succ_of_le hf_b)).mono ?_
  rintro e w6 ⟨vk, rfl, hr, hb⟩
  have HB6 := Lib.hid (HB5.out.call hb)
  clear hb HB5
  have HB7 := Lib.hid (HB6.out.add hr)
  clear hr HB6
  go_wp2_with fail
  with_reducible refine (MeetV (HB7.out.rd _ _ (List.Mem.tail _ (List.Mem.tail _ (List.Mem.head _)))) (HB7.out.rd _ _ (List.Mem.tail _ (List.Mem.tail _ (List.Mem.tail _ (List.Mem.head _))))) hf_a (Nat.le_succ_of_le hf_b)).mono ?_
  rintro e w8 ⟨vp, rfl, hr, hb⟩
  have HB8 := Lib.hid (HB7.out.call hb)
  clear hb HB7
  have HB9 := Lib.hid (HB8.out.add hr)
  clear hr HB8
  go_wp2_with fail
  with_reducible refine (rMeetV (HB9.out.rd _ _ (List.Mem.tail _ (List.Mem.tail _ (List.Mem.tail _ (List.Mem.head _))))) (HB9.out.rd _ _ (List.Mem.tail _ (List.Mem.tail _ (List.Mem.tail _ (List.Mem.tail _ (List.Mem.head _)))))) hf_a (Nat.le_succ_of_le hf_b)).mono ?_
  rintro e w10 ⟨vq, rfl, hr, hb⟩
  have HB10 := Lib.hid (HB9.out.call hb)
  clear hb HB9
  have HB11 := Lib.hid (HB10.out.add hr)
  clear hr HB10
  go_wp2_with fail
  with_reducible refine (CompareV (HB11.out.rd _ _ (List.Mem.tail _ (List.Mem.tail _ (List.Mem.tail _ (List.Mem.tail _ (List.Mem.head _)))))) (HB11.out.rd _ _ (List.Mem.tail _ (List.Mem.tail _ (List.Mem.tail _ (List.Mem.tail _ (List.Mem.tail _ (List.Mem.head _)))))))).mono ?_
  rintro e w12 ⟨rfl, hb⟩
  have HB12 := Lib.hid (HB11.out.call hb)
  clear hb HB11
  go_wp2_with fail
  with_reducible refine (rCompareV (HB12.out.rd _ _ (List.Mem.tail _ (List.Mem.tail _ (List.Mem.tail _ (List.Mem.tail _ (List.Mem.head _)))))) (HB12.out.rd _ _ (List.Mem.tail _ (List.Mem.tail _ (List.Mem.tail _ (List.Mem.tail _ (List.Mem.tail _ (List.Mem.head _)))))))).mono ?_
  rintro e w13 ⟨rfl, hb⟩
  have HB13 := Lib.hid (HB12.out.call hb)
  clear hb HB12
  go_wp2_with fail
  have K13 := SameV (HB13.out.rd _ _ (List.Mem.tail _ (List.Mem.tail _ (List.Mem.tail _ (List.Mem.head _))))) (HB13.out.rd _ _ (List.Mem.tail _ (List.Mem.tail _ (List.Mem.head _))))
  rw [dec_refl] at K13
  with_reducible refine (K13).mono ?_
  rintro e w14 ⟨rfl, hb⟩
  clear K13
  have HB14 := Lib.hid (HB13.out.call hb)
  clear hb HB13
  go_wp2_with fail
  have K14 := SameV (HB14.out.rd _ _ (List.Mem.tail _ (List.Mem.head _))) (HB14.out.rd _ _ (List.Mem.head _))
  rw [dec_refl] at K14
  with_reducible refine (K14).mono ?_
  rintro e w15 ⟨rfl, hb⟩
  clear K14
  have HB15 := Lib.hid (HB14.out.call hb)
  clear hb HB14
  go_wp2_with fail
  go_ret
  exact ⟨rfl, HB15.out.below⟩

set_option maxRecDepth 100000 in
set_option maxHeartbeats 4000000 in
theorem vectorLattice_walk {va : Value} {l : List Dt} {vb : Value} {m : List Dt} {vc : Value} {c : List Dt} (w : World) (h0 : RsV w.heap.size w va l) (h1 : RsV w.heap.size w vb m) (h2 : RsV w.heap.size w vc c) :
    Calls Try.prog 6 #[va, vb, vc] w fun e w' => e = .returned (.bool true) ∧ Below w.heap.size w w' := by
  have HB0 := Lib.hid ((((DX.start w).add h2).add h1).add h0)
  clear h0 h1 h2
  go_enter Try.func6, Try.ntmps6
  go_wp2_with fail
  with_reducible refine (sane12_any _).mono ?_
  rintro e w1 ⟨rfl, hb⟩
  have HB1 := Lib.hid (HB0.out.call hb)
  clear hb HB0
  go_wp2_with fail
  by_cases hf_a : l.length ≤ 600
  rotate_left
  · have K := FewV (HB1.out.rd _ _ (List.Mem.head _))
    rw [decide_eq_false hf_a] at K
    with_reducible refine K.mono ?_
    rintro e wx ⟨rfl, hb⟩
    clear K
    have HB9 := Lib.hid (HB1.out.call hb)
    clear hb
    go_wp2_with fail
    go_ret
    exact ⟨rfl, HB9.out.below⟩
  have K1 := FewV (HB1.out.rd _ _ (List.Mem.head _))
  rw [decide_eq_true hf_a] at K1
  with_reducible refine (K1).mono ?_
  rintro e w2 ⟨rfl, hb⟩
  clear K1
  have HB2 := Lib.hid (HB1.out.call hb)
  clear hb HB1
  go_wp2_with fail
  by_cases hf_b : m.length ≤ 600
  rotate_left
  · have K := FewV (HB2.out.rd _ _ (List.Mem.tail _ (List.Mem.head _)))
    rw [decide_eq_false hf_b] at K
    with_reducible refine K.mono ?_
    rintro e wx ⟨rfl, hb⟩
    clear K
    have HB9 := Lib.hid (HB2.out.call hb)
    clear hb
    go_wp2_with fail
    go_ret
    exact ⟨rfl, HB9.out.below⟩
  have K2 := FewV (HB2.out.rd _ _ (List.Mem.tail _ (List.Mem.head _)))
  rw [decide_eq_true hf_b] at K2
  with_reducible refine (K2).mono ?_
  rintro e w3 ⟨rfl, hb⟩
  clear K2
  have HB3 := Lib.hid (HB2.out.call hb)
  clear hb HB2
  go_wp2_with fail
  by_cases hf_c : c.length ≤ 600
  rotate_left
  · have K := FewV (HB3.out.rd _ _ (List.Mem.tail _ (List.Mem.tail _ (List.Mem.head _))))
    rw [decide_eq_false hf_c] at K
    with_reducible refine K.mono ?_
    rintro e wx ⟨rfl, hb⟩
    clear K
    have HB9 := Lib.hid (HB3.out.call hb)
    clear hb
    go_wp2_with fail
    go_ret
    exact ⟨rfl, HB9.out.below⟩
  have K3 := FewV (HB3.out.rd _ _ (List.Mem.tail _ (List.Mem.tail _ (List.Mem.head _))))
  rw [decide_eq_true hf_c] at K3
  with_reducible refine (K3).mono ?_
  rintro e w4 ⟨rfl, hb⟩
  clear K3
  have HB4 := Lib.hid (HB3.out.call hb)
  clear hb HB3
  go_wp2_with fail
  by_cases ho_a : okV l
  rotate_left
  · have K := CheckV (HB4.out.rd _ _ (List.Mem.head _))
    rw [chV_bad ho_a] at K
    with_reducible refine K.mono ?_
    rintro e wx ⟨rfl, hb⟩
    clear K
    have HB9 := Lib.hid (HB4.out.call hb)
    clear hb
    go_wp2_with fail
    go_ret
    exact ⟨rfl, HB9.out.below⟩
  have K4 := CheckV (HB4.out.rd _ _ (List.Mem.head _))
  rw [chV_ok ho_a] at K4
  with_reducible refine (K4).mono ?_
  rintro e w5 ⟨rfl, hb⟩
  clear K4
  have HB5 := Lib.hid (HB4.out.call hb)
  clear hb HB4
  go_wp2_with fail
  by_cases ho_b : okV m
  rotate_left
  · have K := CheckV (HB5.out.rd _ _ (List.Mem.tail _ (List.Mem.head _)))
    rw [chV_bad ho_b] at K
    with_reducible refine K.mono ?_
    rintro e wx ⟨rfl, hb⟩
    clear K
    have HB9 := Lib.hid (HB5.out.call hb)
    clear hb
    go_wp2_with fail
    go_ret
    exact ⟨rfl, HB9.out.below⟩
  have K5 := CheckV (HB5.out.rd _ _ (List.Mem.tail _ (List.Mem.head _)))
  rw [chV_ok ho_b] at K5
  with_reducible refine (K5).mono ?_
  rintro e w6 ⟨rfl, hb⟩
  clear K5
  have HB6 := Lib.hid (HB5.out.call hb)
  clear hb HB5
  go_wp2_with fail
  by_cases ho_c : okV c
  rotate_left
  · have K := CheckV (HB6.out.rd _ _ (List.Mem.tail _ (List.Mem.tail _ (List.Mem.head _))))
    rw [chV_bad ho_c] at K
    with_reducible refine K.mono ?_
    rintro e wx ⟨rfl, hb⟩
    clear K
    have HB9 := Lib.hid (HB6.out.call hb)
    clear hb
    go_wp2_with fail
    go_ret
    exact ⟨rfl, HB9.out.below⟩
  have K6 := CheckV (HB6.out.rd _ _ (List.Mem.tail _ (List.Mem.tail _ (List.Mem.head _))))
  rw [chV_ok ho_c] at K6
  with_reducible refine (K6).mono ?_
  rintro e w7 ⟨rfl, hb⟩
  clear K6
  have HB7 := Lib.hid (HB6.out.call hb)
  clear hb HB6
  go_wp2_with fail
  have K7 := JoinV (HB7.out.rd _ _ (List.Mem.head _)) (HB7.out.rd _ _ (List.Mem.tail _ (List.Mem.head _))) (okV_few ho_a) (okV_few1 ho_b)
  rw [erR_ok ho_a ho_b, jnR_ok ho_a ho_b] at K7
  with_reducible refine (K7).mono ?_
  rintro e w8 ⟨v_ab, rfl, hr, hb⟩
  clear K7
  have HB8 := Lib.hid (HB7.out.call hb)
  clear hb HB7
  have HB9 := Lib.hid (HB8.out.add hr)
  clear hr HB8
  go_wp2_with fail
  have K9 := JoinV (HB9.out.rd _ _ (List.Mem.tail _ (List.Mem.tail _ (List.Mem.head _)))) (HB9.out.rd _ _ (List.Mem.tail _ (List.Mem.head _))) (okV_few ho_b) (okV_few1 ho_a)
  rw [erR_ok ho_b ho_a, jnR_ok ho_b ho_a] at K9
  with_reducible refine (K9).mono ?_
  rintro e w10 ⟨v_ba, rfl, hr, hb⟩
  clear K9
  have HB10 := Lib.hid (HB9.out.call hb)
  clear hb HB9
  have HB11 := Lib.hid (HB10.out.add hr)
  clear hr HB10
  go_wp2_with fail
  have K11 := JoinV (HB11.out.rd _ _ (List.Mem.tail _ (List.Mem.tail _ (List.Mem.tail _ (List.Mem.head _))))) (HB11.out.rd _ _ (List.Mem.tail _ (List.Mem.tail _ (List.Mem.tail _ (List.Mem.tail _ (List.Mem.head _)))))) (okV_few ho_b) (okV_few1 ho_c)
  rw [erR_ok ho_b ho_c, jnR_ok ho_b ho_c] at K11
  with_reducible refine (K11).mono ?_
  rintro e w12 ⟨v_bc, rfl, hr, hb⟩
  clear K11
  have HB12 := Lib.hid (HB11.out.call hb)
  clear hb HB11
  have HB13 := Lib.hid (HB12.out.add hr)
  clear hr HB12
  go_wp2_with fail
  have K13 := JoinV (HB13.out.rd _ _ (List.Mem.tail _ (List.Mem.tail _ (List.Mem.head _)))) (HB13.out.rd _ _ (List.Mem.tail _ (List.Mem.tail _ (List.Mem.tail _ (List.Mem.tail _ (List.Mem.tail _ (List.Mem.head _))))))) (okV_few (jnV_ok _ _ ho_a ho_b)) (okV_few1 ho_c)
  rw [erR_ok (jnV_ok _ _ ho_a ho_b) ho_c, jnR_ok (jnV_ok _ _ ho_a ho_b) ho_c] at K13
  with_reducible refine (K13).mono ?_
  rintro e w14 ⟨v_le, rfl, hr, hb⟩
  clear K13
  have HB14 := Lib.hid (HB13.out.call hb)
  clear hb HB13
  have HB15 := Lib.hid (HB14.out.add hr)
  clear hr HB14
  go_wp2_with fail
  have K15 := JoinV (HB15.out.rd _ _ (List.Mem.tail _ (List.Mem.tail _ (List.Mem.tail _ (List.Mem.tail _ (List.Mem.head _)))))) (HB15.out.rd _ _ (List.Mem.tail _ (List.Mem.head _))) (okV_few ho_a) (okV_few1 (jnV_ok _ _ ho_b ho_c))
  rw [erR_ok ho_a (jnV_ok _ _ ho_b ho_c), jnR_ok ho_a (jnV_ok _ _ ho_b ho_c)] at K15
  with_reducible refine (K15).mono ?_
  rintro e w16 ⟨v_ri, rfl, hr, hb⟩
  clear K15
  have HB16 := Lib.hid (HB15.out.call hb)
  clear hb HB15
  have HB17 := Lib.hid (HB16.out.add hr)
  clear hr HB16
  go_wp2_with fail
  have K17 := JoinV (HB17.out.rd _ _ (List.Mem.tail _ (List.Mem.tail _ (List.Mem.tail _ (List.Mem.tail _ (List.Mem.tail _ (List.Mem.head _))))))) (HB17.out.rd _ _ (List.Mem.tail _ (List.Mem.tail _ (List.Mem.tail _ (List.Mem.tail _ (List.Mem.tail _ (List.Mem.head _))))))) (okV_few ho_a) (okV_few1 ho_a)
  rw [erR_ok ho_a ho_a, jnR_ok ho_a ho_a] at K17
  with_reducible refine (K17).mono ?_
  rintro e w18 ⟨v_own, rfl, hr, hb⟩
  clear K17
  have HB18 := Lib.hid (HB17.out.call hb)
  clear hb HB17
  have HB19 := Lib.hid (HB18.out.add hr)
  clear hr HB18
  go_wp2_with fail
  have K19 := SameV (HB19.out.rd _ _ (List.Mem.tail _ (List.Mem.tail _ (List.Mem.tail _ (List.Mem.tail _ (List.Mem.tail _ (List.Mem.head _))))))) (HB19.out.rd _ _ (List.Mem.tail _ (List.Mem.tail _ (List.Mem.tail _ (List.Mem.tail _ (List.Mem.head _))))))
  rw [decide_eq_true (jn_comm ho_a ho_b)] at K19
  with_reducible refine (K19).mono ?_
  rintro e w20 ⟨rfl, hb⟩
  clear K19
  have HB20 := Lib.hid (HB19.out.call hb)
  clear hb HB19
  go_wp2_with fail
  have K20 := SameV (HB20.out.rd _ _ (List.Mem.tail _ (List.Mem.tail _ (List.Mem.head _)))) (HB20.out.rd _ _ (List.Mem.tail _ (List.Mem.head _)))
  rw [decide_eq_true (jn_assoc ho_a ho_b ho_c)] at K20
  with_reducible refine (K20).mono ?_
  rintro e w21 ⟨rfl, hb⟩
  clear K20
  have HB21 := Lib.hid (HB20.out.call hb)
  clear hb HB20
  go_wp2_with fail
  have K21 := SameV (HB21.out.rd _ _ (List.Mem.head _)) (HB21.out.rd _ _ (List.Mem.tail _ (List.Mem.tail _ (List.Mem.tail _ (List.Mem.tail _ (List.Mem.tail _ (List.Mem.tail _ (List.Mem.head _))))))))
  rw [decide_eq_true (jn_idem ho_a)] at K21
  with_reducible refine (K21).mono ?_
  rintro e w22 ⟨rfl, hb⟩
  clear K21
  have HB22 := Lib.hid (HB21.out.call hb)
  clear hb HB21
  go_wp2_with fail
  have K22 := MeetV (HB22.out.rd _ _ (List.Mem.tail _ (List.Mem.tail _ (List.Mem.tail _ (List.Mem.tail _ (List.Mem.tail _ (List.Mem.tail _ (List.Mem.head _)))))))) (HB22.out.rd _ _ (List.Mem.tail _ (List.Mem.tail _ (List.Mem.tail _ (List.Mem.tail _ (List.Mem.tail _ (List.Mem.tail _ (List.Mem.tail _ (List.Mem.head _))))))))) (okV_few ho_a) (okV_few1 ho_b)
  rw [erR_ok ho_a ho_b, mtR_ok ho_a ho_b] at K22
  with_reducible refine (K22).mono ?_
  rintro e w23 ⟨v_mab, rfl, hr, hb⟩
  clear K22
  have HB23 := Lib.hid (HB22.out.call hb)
  clear hb HB22
  have HB24 := Lib.hid (HB23.out.add hr)
  clear hr HB23
  go_wp2_with fail
  have K24 := MeetV (HB24.out.rd _ _ (List.Mem.tail _ (List.Mem.tail _ (List.Mem.tail _ (List.Mem.tail _ (List.Mem.tail _ (List.Mem.tail _ (List.Mem.tail _ (List.Mem.tail _ (List.Mem.head _)))))))))) (HB24.out.rd _ _ (List.Mem.tail _ (List.Mem.tail _ (List.Mem.tail _ (List.Mem.tail _ (List.Mem.tail _ (List.Mem.tail _ (List.Mem.tail _ (List.Mem.head _))))))))) (okV_few ho_b) (okV_few1 ho_a)
  rw [erR_ok ho_b ho_a, mtR_ok ho_b ho_a] at K24
  with_reducible refine (K24).mono ?_
  rintro e w25 ⟨v_mba, rfl, hr, hb⟩
  clear K24
  have HB25 := Lib.hid (HB24.out.call hb)
  clear hb HB24
  have HB26 := Lib.hid (HB25.out.add hr)
  clear hr HB25
  go_wp2_with fail
  have K26 := MeetV (HB26.out.rd _ _ (List.Mem.tail _ (List.Mem.tail _ (List.Mem.tail _ (List.Mem.tail _ (List.Mem.tail _ (List.Mem.tail _ (List.Mem.tail _ (List.Mem.tail _ (List.Mem.tail _ (List.Mem.head _))))))))))) (HB26.out.rd _ _ (List.Mem.tail _ (List.Mem.tail _ (List.Mem.tail _ (List.Mem.tail _ (List.Mem.tail _ (List.Mem.tail _ (List.Mem.tail _ (List.Mem.tail _ (List.Mem.tail _ (List.Mem.tail _ (List.Mem.head _)))))))))))) (okV_few ho_b) (okV_few1 ho_c)
  rw [erR_ok ho_b ho_c, mtR_ok ho_b ho_c] at K26
  with_reducible refine (K26).mono ?_
  rintro e w27 ⟨v_mbc, rfl, hr, hb⟩
  clear K26
  have HB27 := Lib.hid (HB26.out.call hb)
  clear hb HB26
  have HB28 := Lib.hid (HB27.out.add hr)
  clear hr HB27
  go_wp2_with fail
  have K28 := MeetV (HB28.out.rd _ _ (List.Mem.tail _ (List.Mem.tail _ (List.Mem.head _)))) (HB28.out.rd _ _ (List.Mem.tail _ (List.Mem.tail _ (List.Mem.tail _ (List.Mem.tail _ (List.Mem.tail _ (List.Mem.tail _ (List.Mem.tail _ (List.Mem.tail _ (List.Mem.tail _ (List.Mem.tail _ (List.Mem.tail _ (List.Mem.head _))))))))))))) (okV_few (mtV_ok _ _ ho_a ho_b)) (okV_few1 ho_c)
  rw [erR_ok (mtV_ok _ _ ho_a ho_b) ho_c, mtR_ok (mtV_ok _ _ ho_a ho_b) ho_c] at K28
  with_reducible refine (K28).mono ?_
  rintro e w29 ⟨v_mle, rfl, hr, hb⟩
  clear K28
  have HB29 := Lib.hid (HB28.out.call hb)
  clear hb HB28
  have HB30 := Lib.hid (HB29.out.add hr)
  clear hr HB29
  go_wp2_with fail
  have K30 := MeetV (HB30.out.rd _ _ (List.Mem.tail _ (List.Mem.tail _ (List.Mem.tail _ (List.Mem.tail _ (List.Mem.tail _ (List.Mem.tail _ (List.Mem.tail _ (List.Mem.tail _ (List.Mem.tail _ (List.Mem.tail _ (List.Mem.head _)))))))))))) (HB30.out.rd _ _ (List.Mem.tail _ (List.Mem.head _))) (okV_few ho_a) (okV_few1 (mtV_ok _ _ ho_b ho_c))
  rw [erR_ok ho_a (mtV_ok _ _ ho_b ho_c), mtR_ok ho_a (mtV_ok _ _ ho_b ho_c)] at K30
  with_reducible refine (K30).mono ?_
  rintro e w31 ⟨v_mri, rfl, hr, hb⟩
  clear K30
  have HB31 := Lib.hid (HB30.out.call hb)
  clear hb HB30
  have HB32 := Lib.hid (HB31.out.add hr)
  clear hr HB31
  go_wp2_with fail
  have K32 := MeetV (HB32.out.rd _ _ (List.Mem.tail _ (List.Mem.tail _ (List.Mem.tail _ (List.Mem.tail _ (List.Mem.tail _ (List.Mem.tail _ (List.Mem.tail _ (List.Mem.tail _ (List.Mem.tail _ (List.Mem.tail _ (List.Mem.tail _ (List.Mem.head _))))))))))))) (HB32.out.rd _ _ (List.Mem.tail _ (List.Mem.tail _ (List.Mem.tail _ (List.Mem.tail _ (List.Mem.tail _ (List.Mem.tail _ (List.Mem.tail _ (List.Mem.tail _ (List.Mem.tail _ (List.Mem.tail _ (List.Mem.tail _ (List.Mem.head _))))))))))))) (okV_few ho_a) (okV_few1 ho_a)
  rw [erR_ok ho_a ho_a, mtR_ok ho_a ho_a] at K32
  with_reducible refine (K32).mono ?_
  rintro e w33 ⟨v_mown, rfl, hr, hb⟩
  clear K32
  have HB33 := Lib.hid (HB32.out.call hb)
  clear hb HB32
  have HB34 := Lib.hid (HB33.out.add hr)
  clear hr HB33
  go_wp2_with fail
  have K34 := MeetV (HB34.out.rd _ _ (List.Mem.tail _ (List.Mem.tail _ (List.Mem.tail _ (List.Mem.tail _ (List.Mem.tail _ (List.Mem.tail _ (List.Mem.tail _ (List.Mem.tail _ (List.Mem.tail _ (List.Mem.tail _ (List.Mem.tail _ (List.Mem.tail _ (List.Mem.head _)))))))))))))) (HB34.out.rd _ _ (List.Mem.tail _ (List.Mem.tail _ (List.Mem.tail _ (List.Mem.tail _ (List.Mem.tail _ (List.Mem.tail _ (List.Mem.tail _ (List.Mem.tail _ (List.Mem.tail _ (List.Mem.tail _ (List.Mem.tail _ (List.Mem.head _))))))))))))) (okV_few ho_a) (okV_few1 (jnV_ok _ _ ho_a ho_b))
  rw [erR_ok ho_a (jnV_ok _ _ ho_a ho_b), mtR_ok ho_a (jnV_ok _ _ ho_a ho_b)] at K34
  with_reducible refine (K34).mono ?_
  rintro e w35 ⟨v_up, rfl, hr, hb⟩
  clear K34
  have HB35 := Lib.hid (HB34.out.call hb)
  clear hb HB34
  have HB36 := Lib.hid (HB35.out.add hr)
  clear hr HB35
  go_wp2_with fail
  have K36 := JoinV (HB36.out.rd _ _ (List.Mem.tail _ (List.Mem.tail _ (List.Mem.tail _ (List.Mem.tail _ (List.Mem.tail _ (List.Mem.tail _ (List.Mem.tail _ (List.Mem.tail _ (List.Mem.tail _ (List.Mem.tail _ (List.Mem.tail _ (List.Mem.tail _ (List.Mem.tail _ (List.Mem.head _))))))))))))))) (HB36.out.rd _ _ (List.Mem.tail _ (List.Mem.tail _ (List.Mem.tail _ (List.Mem.tail _ (List.Mem.tail _ (List.Mem.tail _ (List.Mem.head _)))))))) (okV_few ho_a) (okV_few1 (mtV_ok _ _ ho_a ho_b))
  rw [erR_ok ho_a (mtV_ok _ _ ho_a ho_b), jnR_ok ho_a (mtV_ok _ _ ho_a ho_b)] at K36
  with_reducible refine (K36).mono ?_
  rintro e w37 ⟨v_dow, rfl, hr, hb⟩
  clear K36
  have HB37 := Lib.hid (HB36.out.call hb)
  clear hb HB36
  have HB38 := Lib.hid (HB37.out.add hr)
  clear hr HB37
  go_wp2_with fail
  have K38 := SameV (HB38.out.rd _ _ (List.Mem.tail _ (List.Mem.tail _ (List.Mem.tail _ (List.Mem.tail _ (List.Mem.tail _ (List.Mem.tail _ (List.Mem.tail _ (List.Mem.head _))))))))) (HB38.out.rd _ _ (List.Mem.tail _ (List.Mem.tail _ (List.Mem.tail _ (List.Mem.tail _ (List.Mem.tail _ (List.Mem.tail _ (List.Mem.head _))))))))
  rw [decide_eq_true (mt_comm ho_a ho_b)] at K38
  with_reducible refine (K38).mono ?_
  rintro e w39 ⟨rfl, hb⟩
  clear K38
  have HB39 := Lib.hid (HB38.out.call hb)
  clear hb HB38
  go_wp2_with fail
  have K39 := SameV (HB39.out.rd _ _ (List.Mem.tail _ (List.Mem.tail _ (List.Mem.tail _ (List.Mem.tail _ (List.Mem.head _)))))) (HB39.out.rd _ _ (List.Mem.tail _ (List.Mem.tail _ (List.Mem.tail _ (List.Mem.head _)))))
  rw [decide_eq_true (mt_assoc ho_a ho_b ho_c)] at K39
  with_reducible refine (K39).mono ?_
  rintro e w40 ⟨rfl, hb⟩
  clear K39
  have HB40 := Lib.hid (HB39.out.call hb)
  clear hb HB39
  go_wp2_with fail
  have K40 := SameV (HB40.out.rd _ _ (List.Mem.tail _ (List.Mem.tail _ (List.Mem.head _)))) (HB40.out.rd _ _ (List.Mem.tail _ (List.Mem.tail _ (List.Mem.tail _ (List.Mem.tail _ (List.Mem.tail _ (List.Mem.tail _ (List.Mem.tail _ (List.Mem.tail _ (List.Mem.tail _ (List.Mem.tail _ (List.Mem.tail _ (List.Mem.tail _ (List.Mem.tail _ (List.Mem.tail _ (List.Mem.head _))))))))))))))))
  rw [decide_eq_true (mt_idem ho_a)] at K40
  with_reducible refine (K40).mono ?_
  rintro e w41 ⟨rfl, hb⟩
  clear K40
  have HB41 := Lib.hid (HB40.out.call hb)
  clear hb HB40
  go_wp2_with fail
  have K41 := SameV (HB41.out.rd _ _ (List.Mem.tail _ (List.Mem.head _))) (HB41.out.rd _ _ (List.Mem.tail _ (List.Mem.tail _ (List.Mem.tail _ (List.Mem.tail _ (List.Mem.tail _ (List.Mem.tail _ (List.Mem.tail _ (List.Mem.tail _ (List.Mem.tail _ (List.Mem.tail _ (List.Mem.tail _ (List.Mem.tail _ (List.Mem.tail _ (List.Mem.tail _ (List.Mem.head _))))))))))))))))
  rw [decide_eq_true (mt_absorb ho_a ho_b)] at K41
  with_reducible refine (K41).mono ?_
  rintro e w42 ⟨rfl, hb⟩
  clear K41
  have HB42 := Lib.hid (HB41.out.call hb)
  clear hb HB41
  go_wp2_with fail
  have K42 := SameV (HB42.out.rd _ _ (List.Mem.head _)) (HB42.out.rd _ _ (List.Mem.tail _ (List.Mem.tail _ (List.Mem.tail _ (List.Mem.tail _ (List.Mem.tail _ (List.Mem.tail _ (List.Mem.tail _ (List.Mem.tail _ (List.Mem.tail _ (List.Mem.tail _ (List.Mem.tail _ (List.Mem.tail _ (List.Mem.tail _ (List.Mem.tail _ (List.Mem.head _))))))))))))))))
  rw [decide_eq_true (jn_absorb ho_a ho_b)] at K42
  with_reducible refine (K42).mono ?_
  rintro e w43 ⟨rfl, hb⟩
  clear K42
  have HB43 := Lib.hid (HB42.out.call hb)
  clear hb HB42
  go_wp2_with fail
  go_ret
  exact ⟨rfl, HB43.out.below⟩
end Go.Proofs.Ytfdfaajjlangjaa
