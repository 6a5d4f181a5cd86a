/-
  Package pake: the walks of PakePointSpec, PakeAgree and PakeRefused.
-/
import Derived.Test.YtkpecfhcdechmaaDoorJp
import Derived.Deep.RegionHeld3
namespace Go.Proofs.YtkpecfhcdechmaaDoor
open Go.RowKit
set_option linter.unusedVariables false
set_option linter.unusedSimpArgs false

/-- A guarded composite literal. -/
theorem wpList_builtG {P : Program} {w : World} {ops : Array Oper} {rest : List Oper} {o : Oper} {a : Act} {Q : Exit → Act → World → Prop} (hw : Region.wanted o (yielded ops a.tmps) = true) (t : TypeId) (parts : Array (Nat × Operand)) (ho : o.op = .build t parts)
    (vals : List (Nat × Value)) (hv : (parts.map fun (i, x) => (i, a.eval x)).toList = vals) (cells : Array Value) (hc : P.built t vals = some cells) (h : wpList P ops Q rest (a.put o.dst (.agg cells)) w) : wpList P ops Q (o :: rest) a w := by
  refine wpList_step fun K hK => ?_
  rw [if_pos hw]
  refine wp_build t parts ho ?_ (hK _ _ ?_)
  · rw [hv, hc]; rfl
  · rw [hv, hc]; exact h

set_option maxRecDepth 100000 in
set_option maxHeartbeats 4000000 in
theorem pointSpec_walk10 (r c n : Int) (w : World) (hT : Tab w) :
    Calls Tryd.prog 3 #[sidV r c n] w fun e w' => e = .returned (.bool true) ∧ Below w.heap.size w w' := by
  have KP := Lib.hid (fun W h => Point_any r c n W h)
  have KR := Lib.hid (fun W => rPoint_any r c n W)
  have KC := Lib.hid (fun W => pCheck_any r c n W)
  have KD := Lib.hid (fun W => rCheck10_any r c n W)
  obtain ⟨x, hx⟩ : ∃ x, ptW r c n = x := ⟨_, rfl⟩
  obtain ⟨y, hy⟩ : ∃ y, pkE r c n = y := ⟨_, rfl⟩
  rw [hx, hy] at KP KR
  rw [hy] at KC KD
  unfold sidV at *
  obtain ⟨w1, hw1⟩ : ∃ w1, w1 = w.alloc (.cells #[.int .i64 r, .int .i64 c, .int .i64 n] 23) := ⟨_, rfl⟩
  have HB0 := Lib.hid ((PB.start hT).addS r c n w.heap.size rfl)
  rw [← hw1] at HB0
  clear hT hx hy
  go_enter Tryd.func3, Tryd.ntmps3
  go_wp2_with fail
  rw [← hw1]
  clear hw1
  refine (sane10_any _ HB0.out.tab).mono ?_
  rintro e w2 ⟨rfl, hb⟩
  have HB1 := Lib.hid (HB0.out.call hb)
  clear hb HB0
  obtain ⟨x0, x1, x2⟩ := (HB1.out.side w.heap.size r c n (by simp)).cells3
  go_wp2_with fail
  clear x0 x1 x2
  refine (KP.out _ HB1.out.tab).mono ?_
  rintro e w3 ⟨rfl, hb⟩
  have HB3 := Lib.hid (HB1.out.call hb)
  clear hb HB1
  obtain ⟨x0, x1, x2⟩ := (HB3.out.side w.heap.size r c n (by simp)).cells3
  go_wp2_with fail
  clear x0 x1 x2
  refine (KR.out _).mono ?_
  rintro e w4 ⟨rfl, hb⟩
  have HB4 := Lib.hid (HB3.out.call hb)
  clear hb HB3
  go_wp2_with fail
  have hS := (HB4.out.drew.side w.heap.size r c n (by simp)).cells3
  go_region_held3 (fun w' => w'.cell? ⟨w.heap.size, 0, none⟩ = some (.int .i64 r) ∧ w'.cell? ⟨w.heap.size, 1, none⟩ = some (.int .i64 c) ∧ w'.cell? ⟨w.heap.size, 2, none⟩ = some (.int .i64 n))
    (first
      | exact hS6
      | exact hS5
      | exact hS)
    (first
      | (go_at_call 13
         with_reducible refine (KC.out _).mono ?_
         rintro e w5 ⟨rfl, hb⟩
         have HB5 := Lib.hid (HB4.out.drew.call hb)
         have hS5 := (HB5.out.side w.heap.size r c n (by simp)).cells3
         clear hb)
      | (go_at_call 14
         with_reducible refine (KD.out _).mono ?_
         rintro e w6 ⟨rfl, hb⟩
         have HB6 := Lib.hid (HB5.out.call hb)
         have hS6 := (HB6.out.side w.heap.size r c n (by simp)).cells3
         clear hb))
  all_goals (go_wp2_with fail)
  all_goals (go_ret; exact ⟨rfl, HB6.out.below⟩)

set_option maxRecDepth 100000 in
set_option maxHeartbeats 4000000 in
theorem agree_walk10 (code sa sb : Int) (w : World) (hT : Tab w) :
    Calls Tryd.prog 5 #[.int .i64 code, .int .i64 sa, .int .i64 sb] w fun e w' => e = .returned (.bool true) ∧ Below w.heap.size w w' := by
  have HB0 := Lib.hid (PB.start hT)
  have KS1 := Lib.hid (fun W => side_any 0 code sa W)
  have KS2 := Lib.hid (fun W => side_any 1 code sb W)
  have h1 := sd_ok 0 code sa
  have h2 := sd_ok 1 code sb
  rw [sdR0] at KS1 h1
  rw [sdR1] at KS2 h2
  obtain ⟨c, hc⟩ : ∃ c, sdC code = c := ⟨_, rfl⟩
  rw [hc] at KS1 KS2 h1 h2
  obtain ⟨n, hn⟩ : ∃ n, sdS sa = n := ⟨_, rfl⟩
  obtain ⟨m, hm⟩ : ∃ m, sdS sb = m := ⟨_, rfl⟩
  rw [hn] at KS1 h1
  rw [hm] at KS2 h2
  clear hc hn hm
  obtain ⟨s1, s2, e1, e2⟩ := pair_ok h1 h2
  have KP1 := Lib.hid (fun W h => Point_ok 1 c n h1 W h)
  have KP2 := Lib.hid (fun W h => Point_ok 2 c m h2 W h)
  have KH := Lib.hid (fun W h => Shared_any 1 c n (ptP 2 c m : Nat) W h)
  have KG := Lib.hid (fun W h => Shared_any 2 c m (ptP 1 c n : Nat) W h)
  rw [e1, shE_ok s1] at KH
  rw [e2, shE_ok s2] at KG
  have KR := Lib.hid (fun W h => Proof_any 1 c n (ptP 2 c m : Nat) W h)
  rw [prW_ok s1, e1, shE_ok s1] at KR
  have KT := Lib.hid (fun W h => Proof_any 2 c m (ptP 1 c n : Nat) W h)
  rw [prW_ok s2, e2, shE_ok s2] at KT
  have HLX := Lib.hid (kyP_len 1 c n (ptP 2 c m))
  have HLC := Lib.hid (prP_len (kyP 1 c n (ptP 2 c m)) (roB 1))
  have HLD := Lib.hid (prP_len (kyP 1 c n (ptP 2 c m)) (roB 2))
  have KA := Lib.hid (fun W h => Accept_any 1 c n (ptP 2 c m : Nat) (prP (kyP 1 c n (ptP 2 c m)) (roB 2)) HLD.out W h)
  rw [acW_ok s1, e1, shE_ok s1, show roB (3 - 1) = roB 2 from rfl, deq_self] at KA
  have KB := Lib.hid (fun W h => Accept_any 2 c m (ptP 1 c n : Nat) (prP (kyP 1 c n (ptP 2 c m)) (roB 1)) HLC.out W h)
  rw [acW_ok s2, e2, shE_ok s2, show roB (3 - 2) = roB 1 from rfl, deq_self] at KB
  have KC1 := Lib.hid (fun W => gCheck_ok (ptP 1 c n : Nat) (ptP_is _ _ _) W)
  have KC2 := Lib.hid (fun W => gCheck_ok (ptP 2 c m : Nat) (ptP_is _ _ _) W)
  obtain ⟨D, hD⟩ : ∃ D, prP (kyP 1 c n (ptP 2 c m)) (roB 2) = D := ⟨_, rfl⟩
  rw [hD] at KT KA HLD
  obtain ⟨C, hC⟩ : ∃ C, prP (kyP 1 c n (ptP 2 c m)) (roB 1) = C := ⟨_, rfl⟩
  rw [hC] at KR KB HLC
  obtain ⟨X, hX⟩ : ∃ X, kyP 1 c n (ptP 2 c m) = X := ⟨_, rfl⟩
  rw [hX] at KH KG HLX
  obtain ⟨a, ha⟩ : ∃ a, ptP 1 c n = a := ⟨_, rfl⟩
  obtain ⟨b, hb0⟩ : ∃ b, ptP 2 c m = b := ⟨_, rfl⟩
  rw [ha] at KP1 KG KT KB KC1
  rw [hb0] at KP2 KH KR KA KC2
  clear h1 h2 s1 s2 e1 e2 hD hC hX ha hb0 hT
  have eX := fun W => equal_keyS X HLX.out W
  unfold sidV at *
  go_enter Tryd.func5, Tryd.ntmps5
  go_wp2_with fail
  refine (sane10_any _ HB0.out.tab).mono ?_
  rintro e w1 ⟨rfl, hb⟩
  have HB1 := Lib.hid (HB0.out.call hb)
  clear hb HB0
  go_wp2_with fail
  refine (KS1.out _).mono ?_
  rintro e w2 ⟨rfl, hb⟩
  have HB2 := Lib.hid (HB1.out.call hb)
  clear hb HB1
  go_wp2_with fail
  refine (KS2.out _).mono ?_
  rintro e w3 ⟨rfl, hb⟩
  have HB3 := Lib.hid (HB2.out.call hb)
  clear hb HB2
  have HB4 := Lib.hid ((HB3.out.addS 1 c n w3.heap.size rfl).addS 2 c m (w3.heap.size + 1) (by simp))
  obtain ⟨w4, hw⟩ : ∃ w4, w4 = (w3.alloc (.cells #[.int .i64 1, .int .i64 c, .int .i64 n] 23)).alloc (.cells #[.int .i64 2, .int .i64 c, .int .i64 m] 23) := ⟨_, rfl⟩
  rw [← hw] at HB4
  go_wp2_with fail
  rw [← hw]
  clear hw HB3
  generalize w3.heap.size + 1 = gy at *
  generalize w3.heap.size = gx at *
  refine (KP1.out _ HB4.out.tab).mono ?_
  rintro e w5 ⟨rfl, hb⟩
  have HB5 := Lib.hid (HB4.out.call hb)
  clear hb HB4
  obtain ⟨y0, y1, y2⟩ := (HB5.out.side gy 2 c m (by simp)).cells3
  go_wp2_with fail
  clear y0 y1 y2
  refine (KP2.out _ HB5.out.tab).mono ?_
  rintro e w6 ⟨rfl, hb⟩
  have HB6 := Lib.hid (HB5.out.call hb)
  clear hb HB5
  obtain ⟨x0, x1, x2⟩ := (HB6.out.side gx 1 c n (by simp)).cells3
  go_wp2_with fail
  clear x0 x1 x2
  refine (KH.out _ HB6.out.tab).mono ?_
  rintro e w7 ⟨rfl, hb⟩
  have HB7 := Lib.hid (HB6.out.call hb)
  clear hb HB6
  go_wp2_with (refine wpList_storeA rfl 32 (.tmp 13) (.tmp 47) rfl w7.heap.size (bvA X) rfl rfl 32 _ (BB.new w7 _ zK) (key_sz _ HLX.out) (key_old _ HLX.out) (bvA_one _) ?_)
  intro w8 hst hgr
  have HB8 := Lib.hid (HB7.out.stored 32 X hst hgr)
  clear hst hgr HB7
  generalize w7.heap.size = gk at *
  obtain ⟨y0, y1, y2⟩ := (HB8.out.side gy 2 c m (by simp)).cells3
  go_wp2_with fail
  clear y0 y1 y2
  refine (KG.out _ HB8.out.tab).mono ?_
  rintro e w9 ⟨rfl, hb⟩
  have HB9 := Lib.hid (HB8.out.call hb)
  clear hb HB8
  go_wp2_with (refine wpList_storeA rfl 32 (.tmp 15) (.tmp 53) rfl w9.heap.size (bvA X) rfl rfl 32 _ (BB.new w9 _ zK) (key_sz _ HLX.out) (key_old _ HLX.out) (bvA_one _) ?_)
  intro w10 hst hgr
  have HB10 := Lib.hid (HB9.out.stored 32 X hst hgr)
  clear hst hgr HB9
  generalize w9.heap.size = gl at *
  obtain ⟨x0, x1, x2⟩ := (HB10.out.side gx 1 c n (by simp)).cells3
  go_wp2_with fail
  clear x0 x1 x2
  refine (KR.out _ HB10.out.tab).mono ?_
  rintro e w11 ⟨rfl, hb⟩
  have HB11 := Lib.hid (HB10.out.call hb)
  clear hb HB10
  go_wp2_with (refine wpList_storeA rfl 31 (.tmp 17) (.tmp 59) rfl w11.heap.size (bvA C) rfl rfl 31 _ (BB.new w11 _ zK) (digP_sz _ HLC.out) (key_old _ HLC.out) (bvA_one _) ?_)
  intro w12 hst hgr
  have HB12 := Lib.hid (HB11.out.stored 31 C hst hgr)
  clear hst hgr HB11
  generalize w11.heap.size = gp at *
  obtain ⟨y0, y1, y2⟩ := (HB12.out.side gy 2 c m (by simp)).cells3
  go_wp2_with fail
  clear y0 y1 y2
  refine (KT.out _ HB12.out.tab).mono ?_
  rintro e w13 ⟨rfl, hb⟩
  have HB13 := Lib.hid (HB12.out.call hb)
  clear hb HB12
  go_wp2_with (refine wpList_storeA rfl 31 (.tmp 19) (.tmp 65) rfl w13.heap.size (bvA D) rfl rfl 31 _ (BB.new w13 _ zK) (digP_sz _ HLD.out) (key_old _ HLD.out) (bvA_one _) ?_)
  intro w14 hst hgr
  have HB14 := Lib.hid (HB13.out.stored 31 D hst hgr)
  clear hst hgr HB13
  generalize w13.heap.size = gq at *
  obtain ⟨x0, x1, x2⟩ := (HB14.out.side gx 1 c n (by simp)).cells3
  go_wp2_with (refine wpList_load_row rfl 31  (.tmp 19) rfl gq rfl _ (bvA D) (0, 0) _ (HB14.out.blk gq 31 D (by simp)) digP_und rfl (digP_sz _ HLD.out) ?_)
  clear x0 x1 x2
  refine (KA.out _ HB14.out.tab).mono ?_
  rintro e w15 ⟨rfl, hb⟩
  have HB15 := Lib.hid (HB14.out.call hb)
  clear hb HB14
  obtain ⟨y0, y1, y2⟩ := (HB15.out.side gy 2 c m (by simp)).cells3
  go_wp2_with (refine wpList_load_row rfl 31  (.tmp 17) rfl gp rfl _ (bvA C) (0, 0) _ (HB15.out.blk gp 31 C (by simp)) digP_und rfl (digP_sz _ HLC.out) ?_)
  clear y0 y1 y2
  refine (KB.out _ HB15.out.tab).mono ?_
  rintro e w16 ⟨rfl, hb⟩
  have HB16 := Lib.hid (HB15.out.call hb)
  clear hb HB15
  go_wp2_with fail
  refine (KC1.out _).mono ?_
  rintro e w17 ⟨rfl, hb⟩
  have HB17 := Lib.hid (HB16.out.call hb)
  clear hb HB16
  go_wp2_with fail
  refine (KC2.out _).mono ?_
  rintro e w18 ⟨rfl, hb⟩
  have HB18 := Lib.hid (HB17.out.call hb)
  clear hb HB17
  go_wp2_with (first
    | (refine wpList_load_rowG (by rfl) 32  (.tmp 13) rfl gk rfl _ (bvA X) (0, 0) _ (HB18.out.blk gk 32 X (by simp)) key_und rfl (key_sz _ HLX.out) ?_)
    | (refine wpList_load_rowG (by rfl) 32  (.tmp 15) rfl gl rfl _ (bvA X) (0, 0) _ (HB18.out.blk gl 32 X (by simp)) key_und rfl (key_sz _ HLX.out) ?_))
  go_ret
  exact ⟨rfl, HB18.out.below⟩

set_option maxRecDepth 100000 in
set_option maxHeartbeats 4000000 in
theorem refused_ok10 (r c n p : Int) (d : List UInt8) (hd : d.length = 32) (w : World) (hT : Tab w) (h : okS r c n p) :
    Calls Tryd.prog 9 #[sidV r c n, .int .i64 p, .agg (bvA d)] w fun e w' => e = .returned (.bool true) ∧ Below w.heap.size w w' := by
  have HLd := Lib.hid hd
  have KC := Lib.hid (fun W => pCheck_any r c n W)
  rw [pkE_ok h.1] at KC
  have KG := Lib.hid (fun W => gCheck_ok p h.2 W)
  have KH := Lib.hid (fun W h => Shared_any r c n p W h)
  have KR := Lib.hid (fun W h => Proof_any r c n p W h)
  have KA := Lib.hid (fun W h => Accept_any r c n p d hd W h)
  rw [shE_ok h] at KH KR KA
  have HLX := Lib.hid (kyW_len r c n p)
  have HLP := Lib.hid (prW_len r c n p)
  obtain ⟨X, hX⟩ : ∃ X, kyW r c n p = X := ⟨_, rfl⟩
  rw [hX] at KH HLX
  obtain ⟨P, hP⟩ : ∃ P, prW r c n p = P := ⟨_, rfl⟩
  rw [hP] at KR HLP
  obtain ⟨b, hb0⟩ : ∃ b, acW r c n p d = b := ⟨_, rfl⟩
  rw [hb0] at KA
  clear hX hP hb0
  unfold sidV at *
  obtain ⟨w1, hw1⟩ : ∃ w1, w1 = (w.alloc (.cells #[.int .i64 r, .int .i64 c, .int .i64 n] 23)).alloc (.cells (bvA d) 31) := ⟨_, rfl⟩
  have HB0 := Lib.hid (((PB.start hT).addS r c n w.heap.size rfl).addB 31 d (w.heap.size + 1) (by simp))
  rw [← hw1] at HB0
  clear hT hd
  go_enter Tryd.func9, Tryd.ntmps9
  go_wp2_with fail
  rw [← hw1]
  clear hw1
  refine (sane10_any _ HB0.out.tab).mono ?_
  rintro e w2 ⟨rfl, hb⟩
  have HB1 := Lib.hid (HB0.out.call hb)
  clear hb HB0
  obtain ⟨x0, x1, x2⟩ := (HB1.out.side w.heap.size r c n (by simp)).cells3
  go_wp2_with fail
  clear x0 x1 x2
  refine (KC.out _).mono ?_
  rintro e w3 ⟨rfl, hb⟩
  have HB3 := Lib.hid (HB1.out.call hb)
  clear hb HB1
  go_wp2_with fail
  refine (KG.out _).mono ?_
  rintro e w4 ⟨rfl, hb⟩
  have HB4 := Lib.hid (HB3.out.call hb)
  clear hb HB3
  obtain ⟨x0, x1, x2⟩ := (HB4.out.side w.heap.size r c n (by simp)).cells3
  go_wp2_with fail
  clear x0 x1 x2
  refine (KH.out _ HB4.out.tab).mono ?_
  rintro e w5 ⟨rfl, hb⟩
  have HB5 := Lib.hid (HB4.out.call hb)
  clear hb HB4
  go_wp2_with (refine wpList_storeA rfl 32 (.tmp 8) (.tmp 28) rfl w5.heap.size (bvA X) rfl rfl 32 _ (BB.new w5 _ zK) (key_sz _ HLX.out) (key_old _ HLX.out) (bvA_one _) ?_)
  intro w6 hst hgr
  have HB6 := Lib.hid (HB5.out.stored 32 X hst hgr)
  clear hst hgr HB5
  generalize w5.heap.size = gk at *
  obtain ⟨x0, x1, x2⟩ := (HB6.out.side w.heap.size r c n (by simp)).cells3
  go_wp2_with fail
  clear x0 x1 x2
  refine (KR.out _ HB6.out.tab).mono ?_
  rintro e w7 ⟨rfl, hb⟩
  have HB7 := Lib.hid (HB6.out.call hb)
  clear hb HB6
  go_wp2_with (refine wpList_storeA rfl 31 (.tmp 10) (.tmp 34) rfl w7.heap.size (bvA P) rfl rfl 31 _ (BB.new w7 _ zK) (digP_sz _ HLP.out) (key_old _ HLP.out) (bvA_one _) ?_)
  intro w8 hst hgr
  have HB8 := Lib.hid (HB7.out.stored 31 P hst hgr)
  clear hst hgr HB7
  generalize w7.heap.size = gp at *
  obtain ⟨x0, x1, x2⟩ := (HB8.out.side w.heap.size r c n (by simp)).cells3
  go_wp2_with (refine wpList_load_row rfl 31  (.tmp 5) rfl (w.heap.size + 1) rfl _ (bvA d) (0, 0) _ (HB8.out.blk (w.heap.size + 1) 31 d (by simp)) digP_und rfl (digP_sz _ HLd.out) ?_)
  clear x0 x1 x2
  refine (KA.out _ HB8.out.tab).mono ?_
  rintro e w9 ⟨rfl, hb⟩
  have HB9 := Lib.hid (HB8.out.call hb)
  clear hb HB8
  go_wp2_with fail
  go_ret
  exact ⟨rfl, HB9.out.below⟩

set_option maxRecDepth 100000 in
set_option maxHeartbeats 4000000 in
theorem refused_side10 (r c n p : Int) (d : List UInt8) (hd : d.length = 32) (w : World) (hT : Tab w) (h : ¬ okP r c n) (hs : ¬ okS r c n p) :
    Calls Tryd.prog 9 #[sidV r c n, .int .i64 p, .agg (bvA d)] w fun e w' => e = .returned (.bool true) ∧ Below w.heap.size w w' := by
  have HLd := Lib.hid hd
  have KC := Lib.hid (fun W => pCheck_any r c n W)
  rw [pkE_bad h] at KC
  have KH := Lib.hid (fun W h => Shared_any r c n p W h)
  have KR := Lib.hid (fun W h => Proof_any r c n p W h)
  have KA := Lib.hid (fun W h => Accept_any r c n p d hd W h)
  rw [shE_bad hs] at KH KR KA
  rw [kyW_bad hs] at KH
  rw [prW_bad hs] at KR
  rw [acW_bad hs] at KA
  have HLX := Lib.hid zK_len
  have eK : ∀ W, (Op.equalIn 10000 32 (.agg (bvA zK)) (.agg #[.int .u8 0, .int .u8 0, .int .u8 0, .int .u8 0, .int .u8 0, .int .u8 0, .int .u8 0, .int .u8 0, .int .u8 0, .int .u8 0, .int .u8 0, .int .u8 0, .int .u8 0, .int .u8 0, .int .u8 0, .int .u8 0, .int .u8 0, .int .u8 0, .int .u8 0, .int .u8 0, .int .u8 0, .int .u8 0, .int .u8 0, .int .u8 0, .int .u8 0, .int .u8 0, .int .u8 0, .int .u8 0, .int .u8 0, .int .u8 0, .int .u8 0, .int .u8 0])).run Tryd.prog W = .ok true W := fun W => equal_keyS zK HLX.out W
  have eD : ∀ W, (Op.equalIn 10000 31 (.agg (bvA zK)) (.agg #[.int .u8 0, .int .u8 0, .int .u8 0, .int .u8 0, .int .u8 0, .int .u8 0, .int .u8 0, .int .u8 0, .int .u8 0, .int .u8 0, .int .u8 0, .int .u8 0, .int .u8 0, .int .u8 0, .int .u8 0, .int .u8 0, .int .u8 0, .int .u8 0, .int .u8 0, .int .u8 0, .int .u8 0, .int .u8 0, .int .u8 0, .int .u8 0, .int .u8 0, .int .u8 0, .int .u8 0, .int .u8 0, .int .u8 0, .int .u8 0, .int .u8 0, .int .u8 0])).run Tryd.prog W = .ok true W := fun W => equal_same zK HLX.out W
  unfold sidV at *
  obtain ⟨w1, hw1⟩ : ∃ w1, w1 = (w.alloc (.cells #[.int .i64 r, .int .i64 c, .int .i64 n] 23)).alloc (.cells (bvA d) 31) := ⟨_, rfl⟩
  have HB0 := Lib.hid (((PB.start hT).addS r c n w.heap.size rfl).addB 31 d (w.heap.size + 1) (by simp))
  rw [← hw1] at HB0
  clear hT hd
  go_enter Tryd.func9, Tryd.ntmps9
  go_wp2_with fail
  rw [← hw1]
  clear hw1
  refine (sane10_any _ HB0.out.tab).mono ?_
  rintro e w2 ⟨rfl, hb⟩
  have HB1 := Lib.hid (HB0.out.call hb)
  clear hb HB0
  obtain ⟨x0, x1, x2⟩ := (HB1.out.side w.heap.size r c n (by simp)).cells3
  go_wp2_with fail
  clear x0 x1 x2
  refine (KC.out _).mono ?_
  rintro e w3 ⟨rfl, hb⟩
  have HB3 := Lib.hid (HB1.out.call hb)
  clear hb HB1
  obtain ⟨x0, x1, x2⟩ := (HB3.out.side w.heap.size r c n (by simp)).cells3
  go_wp2_with fail
  clear x0 x1 x2
  refine (KH.out _ HB3.out.tab).mono ?_
  rintro e w4 ⟨rfl, hb⟩
  have HB4 := Lib.hid (HB3.out.call hb)
  clear hb HB3
  go_wp2_with (refine wpList_storeA rfl 32 (.tmp 8) (.tmp 28) rfl w4.heap.size (bvA zK) rfl rfl 32 _ (BB.new w4 _ zK) (key_sz _ HLX.out) (key_old _ HLX.out) (bvA_one _) ?_)
  intro w5 hst hgr
  have HB5 := Lib.hid (HB4.out.stored 32 zK hst hgr)
  clear hst hgr HB4
  generalize w4.heap.size = gk at *
  obtain ⟨x0, x1, x2⟩ := (HB5.out.side w.heap.size r c n (by simp)).cells3
  go_wp2_with fail
  clear x0 x1 x2
  refine (KR.out _ HB5.out.tab).mono ?_
  rintro e w6 ⟨rfl, hb⟩
  have HB6 := Lib.hid (HB5.out.call hb)
  clear hb HB5
  go_wp2_with (refine wpList_storeA rfl 31 (.tmp 10) (.tmp 34) rfl w6.heap.size (bvA zK) rfl rfl 31 _ (BB.new w6 _ zK) (digP_sz _ HLX.out) (key_old _ HLX.out) (bvA_one _) ?_)
  intro w7 hst hgr
  have HB7 := Lib.hid (HB6.out.stored 31 zK hst hgr)
  clear hst hgr HB6
  generalize w6.heap.size = gp at *
  obtain ⟨x0, x1, x2⟩ := (HB7.out.side w.heap.size r c n (by simp)).cells3
  go_wp2_with (refine wpList_load_row rfl 31  (.tmp 5) rfl (w.heap.size + 1) rfl _ (bvA d) (0, 0) _ (HB7.out.blk (w.heap.size + 1) 31 d (by simp)) digP_und rfl (digP_sz _ HLd.out) ?_)
  clear x0 x1 x2
  refine (KA.out _ HB7.out.tab).mono ?_
  rintro e w8 ⟨rfl, hb⟩
  have HB8 := Lib.hid (HB7.out.call hb)
  clear hb HB7
  go_wp2_with (first
    | (refine wpList_load_rowG (by rfl) 32  (.tmp 8) rfl gk rfl _ (bvA zK) (0, 0) _ (HB8.out.blk gk 32 zK (by simp)) key_und rfl (key_sz _ HLX.out) ?_)
    | (refine wpList_builtG (by rfl) 32 #[] rfl [] rfl (bvA zK) (by kernel_rfl) ?_)
    | (refine wpList_load_rowG (by rfl) 31  (.tmp 10) rfl gp rfl _ (bvA zK) (0, 0) _ (HB8.out.blk gp 31 zK (by simp)) digP_und rfl (digP_sz _ HLX.out) ?_)
    | (refine wpList_builtG (by rfl) 31 #[] rfl [] rfl (bvA zK) (by kernel_rfl) ?_))
  go_ret
  exact ⟨rfl, HB8.out.below⟩

set_option maxRecDepth 100000 in
set_option maxHeartbeats 4000000 in
theorem refused_peer10 (r c n p : Int) (d : List UInt8) (hd : d.length = 32) (w : World) (hT : Tab w) (h : okP r c n) (hp : ¬ IsEl p) (hs : ¬ okS r c n p) :
    Calls Tryd.prog 9 #[sidV r c n, .int .i64 p, .agg (bvA d)] w fun e w' => e = .returned (.bool true) ∧ Below w.heap.size w w' := by
  have HLd := Lib.hid hd
  have KC := Lib.hid (fun W => pCheck_any r c n W)
  rw [pkE_ok h] at KC
  have KG := Lib.hid (fun W => gCheck_bad p hp W)
  have KH := Lib.hid (fun W h => Shared_any r c n p W h)
  have KR := Lib.hid (fun W h => Proof_any r c n p W h)
  have KA := Lib.hid (fun W h => Accept_any r c n p d hd W h)
  rw [shE_bad hs] at KH KR KA
  rw [kyW_bad hs] at KH
  rw [prW_bad hs] at KR
  rw [acW_bad hs] at KA
  have HLX := Lib.hid zK_len
  have eK : ∀ W, (Op.equalIn 10000 32 (.agg (bvA zK)) (.agg #[.int .u8 0, .int .u8 0, .int .u8 0, .int .u8 0, .int .u8 0, .int .u8 0, .int .u8 0, .int .u8 0, .int .u8 0, .int .u8 0, .int .u8 0, .int .u8 0, .int .u8 0, .int .u8 0, .int .u8 0, .int .u8 0, .int .u8 0, .int .u8 0, .int .u8 0, .int .u8 0, .int .u8 0, .int .u8 0, .int .u8 0, .int .u8 0, .int .u8 0, .int .u8 0, .int .u8 0, .int .u8 0, .int .u8 0, .int .u8 0, .int .u8 0, .int .u8 0])).run Tryd.prog W = .ok true W := fun W => equal_keyS zK HLX.out W
  have eD : ∀ W, (Op.equalIn 10000 31 (.agg (bvA zK)) (.agg #[.int .u8 0, .int .u8 0, .int .u8 0, .int .u8 0, .int .u8 0, .int .u8 0, .int .u8 0, .int .u8 0, .int .u8 0, .int .u8 0, .int .u8 0, .int .u8 0, .int .u8 0, .int .u8 0, .int .u8 0, .int .u8 0, .int .u8 0, .int .u8 0, .int .u8 0, .int .u8 0, .int .u8 0, .int .u8 0, .int .u8 0, .int .u8 0, .int .u8 0, .int .u8 0, .int .u8 0, .int .u8 0, .int .u8 0, .int .u8 0, .int .u8 0, .int .u8 0])).run Tryd.prog W = .ok true W := fun W => equal_same zK HLX.out W
  unfold sidV at *
  obtain ⟨w1, hw1⟩ : ∃ w1, w1 = (w.alloc (.cells #[.int .i64 r, .int .i64 c, .int .i64 n] 23)).alloc (.cells (bvA d) 31) := ⟨_, rfl⟩
  have HB0 := Lib.hid (((PB.start hT).addS r c n w.heap.size rfl).addB 31 d (w.heap.size + 1) (by simp))
  rw [← hw1] at HB0
  clear hT hd
  go_enter Tryd.func9, Tryd.ntmps9
  go_wp2_with fail
  rw [← hw1]
  clear hw1
  refine (sane10_any _ HB0.out.tab).mono ?_
  rintro e w2 ⟨rfl, hb⟩
  have HB1 := Lib.hid (HB0.out.call hb)
  clear hb HB0
  obtain ⟨x0, x1, x2⟩ := (HB1.out.side w.heap.size r c n (by simp)).cells3
  go_wp2_with fail
  clear x0 x1 x2
  refine (KC.out _).mono ?_
  rintro e w3 ⟨rfl, hb⟩
  have HB3 := Lib.hid (HB1.out.call hb)
  clear hb HB1
  go_wp2_with fail
  refine (KG.out _).mono ?_
  rintro e w4 ⟨rfl, hb⟩
  have HB4 := Lib.hid (HB3.out.call hb)
  clear hb HB3
  obtain ⟨x0, x1, x2⟩ := (HB4.out.side w.heap.size r c n (by simp)).cells3
  go_wp2_with fail
  clear x0 x1 x2
  refine (KH.out _ HB4.out.tab).mono ?_
  rintro e w5 ⟨rfl, hb⟩
  have HB5 := Lib.hid (HB4.out.call hb)
  clear hb HB4
  go_wp2_with (refine wpList_storeA rfl 32 (.tmp 8) (.tmp 28) rfl w5.heap.size (bvA zK) rfl rfl 32 _ (BB.new w5 _ zK) (key_sz _ HLX.out) (key_old _ HLX.out) (bvA_one _) ?_)
  intro w6 hst hgr
  have HB6 := Lib.hid (HB5.out.stored 32 zK hst hgr)
  clear hst hgr HB5
  generalize w5.heap.size = gk at *
  obtain ⟨x0, x1, x2⟩ := (HB6.out.side w.heap.size r c n (by simp)).cells3
  go_wp2_with fail
  clear x0 x1 x2
  refine (KR.out _ HB6.out.tab).mono ?_
  rintro e w7 ⟨rfl, hb⟩
  have HB7 := Lib.hid (HB6.out.call hb)
  clear hb HB6
  go_wp2_with (refine wpList_storeA rfl 31 (.tmp 10) (.tmp 34) rfl w7.heap.size (bvA zK) rfl rfl 31 _ (BB.new w7 _ zK) (digP_sz _ HLX.out) (key_old _ HLX.out) (bvA_one _) ?_)
  intro w8 hst hgr
  have HB8 := Lib.hid (HB7.out.stored 31 zK hst hgr)
  clear hst hgr HB7
  generalize w7.heap.size = gp at *
  obtain ⟨x0, x1, x2⟩ := (HB8.out.side w.heap.size r c n (by simp)).cells3
  go_wp2_with (refine wpList_load_row rfl 31  (.tmp 5) rfl (w.heap.size + 1) rfl _ (bvA d) (0, 0) _ (HB8.out.blk (w.heap.size + 1) 31 d (by simp)) digP_und rfl (digP_sz _ HLd.out) ?_)
  clear x0 x1 x2
  refine (KA.out _ HB8.out.tab).mono ?_
  rintro e w9 ⟨rfl, hb⟩
  have HB9 := Lib.hid (HB8.out.call hb)
  clear hb HB8
  go_wp2_with (first
    | (refine wpList_load_rowG (by rfl) 32  (.tmp 8) rfl gk rfl _ (bvA zK) (0, 0) _ (HB9.out.blk gk 32 zK (by simp)) key_und rfl (key_sz _ HLX.out) ?_)
    | (refine wpList_builtG (by rfl) 32 #[] rfl [] rfl (bvA zK) (by kernel_rfl) ?_)
    | (refine wpList_load_rowG (by rfl) 31  (.tmp 10) rfl gp rfl _ (bvA zK) (0, 0) _ (HB9.out.blk gp 31 zK (by simp)) digP_und rfl (digP_sz _ HLX.out) ?_)
    | (refine wpList_builtG (by rfl) 31 #[] rfl [] rfl (bvA zK) (by kernel_rfl) ?_))
  go_ret
  exact ⟨rfl, HB9.out.below⟩

theorem refused_walk10 (r c n p : Int) (d : List UInt8) (hd : d.length = 32) (w : World) (hT : Tab w) :
    Calls Tryd.prog 9 #[sidV r c n, .int .i64 p, .agg (bvA d)] w fun e w' => e = .returned (.bool true) ∧ Below w.heap.size w w' := by
  by_cases h : okP r c n
  · by_cases hp : IsEl p
    · exact refused_ok10 r c n p d hd w hT ⟨h, hp⟩
    · exact refused_peer10 r c n p d hd w hT h hp (fun h2 => hp h2.2)
  · exact refused_side10 r c n p d hd w hT h (fun h2 => h h2.1)
end Go.Proofs.YtkpecfhcdechmaaDoor
