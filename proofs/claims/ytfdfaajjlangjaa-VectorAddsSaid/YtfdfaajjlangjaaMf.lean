/-
  The reference of vector: Same, Covers, Most, check.
-/
import Derived.Test.YtfdfaajjlangjaaMe
import Derived.Laws.StructEq
namespace Go.Proofs.Ytfdfaajjlangjaa
open Go.RowKit
set_option linter.unusedVariables false
set_option linter.unusedSimpArgs false

theorem dot_und : Try.prog.underlying 24 = some (.struct (Try.prog.fieldsOf 24)) := by kernel_rfl
theorem dot_stood : Try.prog.stoodInHeld 24 = false := by kernel_rfl
theorem dot_guard : Try.prog.eqGuardType Try.prog.depth 24 = false := by kernel_rfl
theorem dot_part0 (a b : Value) (w : World) : (part 3 #[a, b] 0).run Try.prog w = .ok a w := by
  simp [part, isAgg, run_underlying Try.underlying3]
theorem dot_part1 (a b : Value) (w : World) : (part 3 #[a, b] 1).run Try.prog w = .ok b w := by
  simp [part, isAgg, run_underlying Try.underlying3]
theorem equal_dot (a b c d : Int) (w : World) :
    (Op.equalIn 10000 24 (.agg #[.int .i64 a, .int .i64 b]) (.agg #[.int .i64 c, .int .i64 d])).run Try.prog w = .ok (a == c && b == d) w := by
  have h := run_equalIn_struct (P := Try.prog) w 9999 24 #[.int .i64 a, .int .i64 b] #[.int .i64 c, .int .i64 d] dot_und dot_stood
  refine h.trans ?_
  have hd : (Try.prog.fieldsOf 24).toList.map (fun f => (decide (f.name ≠ "_"), f.type, f.offset)) = [(true, 3, 0), (true, 3, 1)] := by kernel_rfl
  generalize (Try.prog.fieldsOf 24).toList = fs at hd ⊢
  obtain ⟨f0, f1, rfl⟩ : ∃ f0 f1, fs = [f0, f1] := by
    have hl := congrArg List.length hd
    simp only [List.length_map, List.length_cons, List.length_nil] at hl
    match fs, hl with
    | [f0, f1], _ => exact ⟨f0, f1, rfl⟩
  · simp only [List.map_cons, List.map_nil, List.cons.injEq, Prod.mk.injEq, decide_eq_true_eq, and_true] at hd
    obtain ⟨⟨n0, t0, o0⟩, ⟨n1, t1, o1⟩⟩ := hd
    have e0 : ∀ x y : Int, (Op.equalIn 9999 3 (.int .i64 x) (.int .i64 y)).run Try.prog w = .ok (x == y) w := fun x y => run_equalIn_int w 9998 3 .i64 .i64 x y Try.underlying3
    simp only [Op.eqFields, n0, n1, t0, t1, o0, o1, ne_eq, not_false_eq_true, if_true, Sem.run_bind, dot_part0, dot_part1, Result.andThen_ok, e0, Sem.run_ite, Sem.run_pure]
    cases h1 : (a == c) <;> cases h2 : (b == d) <;> simp
theorem run_neDot {o : Oper} {a : Act} {w : World} (x y : Operand) (U V : Array Value) (b : Bool) (ho : o.op = .binOp .neq 24 x y 24) (hx : a.eval x = .agg U) (hy : a.eval y = .agg V)
    (h : (Op.equalIn 10000 24 (.agg U) (.agg V)).run Try.prog w = .ok b w) : (execOp a.eval o).run Try.prog w = .ok (.value (.bool !b)) w := by
  unfold execOp
  simp only [ho, hx, hy, Sem.run_bind, run_eqGuard_agg w .neq 24 x y U V dot_guard, Result.andThen_ok, run_neq_struct, h, Sem.run_pure]
theorem dt_beq (s t : Dt) : (s.1 == t.1 && s.2 == t.2) = decide (s = t) := by
  obtain ⟨a, b⟩ := s
  obtain ⟨c, d⟩ := t
  rw [Bool.eq_iff_iff]
  simp

set_option maxRecDepth 100000 in
set_option maxHeartbeats 800000 in
theorem rSame12_any (a : Option Addr) (cap : Nat) (l : List Dt) (a2 : Option Addr) (cap2 : Nat) (m : List Dt) (w : World) (hl : RdDt w.heap.size w a l) (hm2 : RdDt w.heap.size w a2 m) :
    Calls Try.prog 20 #[.slice a l.length cap, .slice a2 m.length cap2] w fun e w' => e = .returned (.bool (decide (l = m))) ∧ Below w.heap.size w w' := by
  have hm := hl.1
  have hm' := hm2.1
  unfold maxLen at hm hm'
  have HB0 := Lib.hid (Below.refl w.heap.size w)
  by_cases hlen : l.length = m.length
  · have HR1 := Lib.hid hl
    have HR2 := Lib.hid hm2
    have HNM := Lib.hid hlen
    obtain ⟨R, hR⟩ := exEqD (decide (l = m))
    have HYES := Lib.hid (fun h : l = m => (decide_eq_true h).symm.trans hR)
    have HNO := Lib.hid (fun h : ¬ l = m => (decide_eq_false h).symm.trans hR)
    rw [hR, ← hlen]
    obtain ⟨n, hn⟩ := exEqD l.length
    have HN := Lib.hid hn
    rw [hn] at hm ⊢
    have f1 : ((n : Int) != (n : Int)) = false := by simp
    clear hl hm2 hlen hR hn hm'
    go_enter Try.func20, Try.ntmps20
    go_wp2_with fail
    go_loopw [5] (fun i wr => ∃ j : Nat, j ≤ n ∧ i = .int .i64 j ∧ l.take j = m.take j ∧ Below w.heap.size w wr) (fun i _ => n - (intOf i).toNat)
    case atStart => exact ⟨0, by omega, rfl, rfl, HB0.out⟩
    case round =>
      clear HB0
      obtain ⟨j, hj, rfl, hq, hb⟩ := hrel
      have HB := Lib.hid hb
      by_cases hlt : j < n
      · have hjl : j < l.length := by rw [HN.out]; exact hlt
        have hjm : j < m.length := by rw [← HNM.out]; exact hjl
        obtain ⟨b, o, rfl, hbB, hc⟩ := HR1.out.at_ (by omega)
        obtain ⟨b2, o2, rfl, hbB2, hc2⟩ := HR2.out.at_ (by omega)
        obtain ⟨d0, d1⟩ := hc j hjl
        obtain ⟨e0, e1⟩ := hc2 j hjm
        have b0 : (0 : Int) ≤ (j : Int) := Int.natCast_nonneg _
        have b1 : (j : Int) < (n : Int) := by omega
        have HC1 : Hid (∀ W, Below w.heap.size w W → W.cell? ⟨b, o + j * 2, none⟩ = some (.int .i64 (l[j]).1) ∧ W.cell? ⟨b, o + j * 2 + 1, none⟩ = some (.int .i64 (l[j]).2)) := Lib.hid (fun W hW => ⟨(hW.cell (p := ⟨b, o + j * 2, none⟩) hbB).trans d0, (hW.cell (p := ⟨b, o + j * 2 + 1, none⟩) hbB).trans d1⟩)
        have HC2 : Hid (∀ W, Below w.heap.size w W → W.cell? ⟨b2, o2 + j * 2, none⟩ = some (.int .i64 (m[j]).1) ∧ W.cell? ⟨b2, o2 + j * 2 + 1, none⟩ = some (.int .i64 (m[j]).2)) := Lib.hid (fun W hW => ⟨(hW.cell (p := ⟨b2, o2 + j * 2, none⟩) hbB2).trans e0, (hW.cell (p := ⟨b2, o2 + j * 2 + 1, none⟩) hbB2).trans e1⟩)
        by_cases he : l[j] = m[j]
        · have HRES : Hid (l.take (j + 1) = m.take (j + 1)) := Lib.hid (by rw [List.take_succ_eq_append_getElem hjl, List.take_succ_eq_append_getElem hjm, hq, he])
          have HEQ : Hid ((l[j].1 == m[j].1 && l[j].2 == m[j].2) = true) := Lib.hid (by rw [dt_beq, decide_eq_true he])
          generalize l[j] = s at *
          generalize m[j] = t at *
          clear hb hq hc hc2 d0 d1 e0 e1 he
          go_wp2_with fail
          rename_i K0 hK0
          refine region_writes [17, 18, 19, 20, 21, 22, 23, 24, 25] (fun f W => f 25 = .bool false ∧ Below wr.heap.size wr W) ?_ ?_
          rotate_left
          · clear hK0 K0
            have HE : Hid (Below wr.heap.size wr wr.drew) := Lib.hid ((Below.refl _ _).drew)
            have HSB : Hid (∀ W, Below wr.heap.size wr W → (W.cell? ⟨b, o + j * 2, none⟩ = some (.int .i64 s.1) ∧ W.cell? ⟨b, o + j * 2 + 1, none⟩ = some (.int .i64 s.2) ∧ W.cell? ⟨b2, o2 + j * 2, none⟩ = some (.int .i64 t.1) ∧ W.cell? ⟨b2, o2 + j * 2 + 1, none⟩ = some (.int .i64 t.2))) := Lib.hid (fun W hW => ⟨(HC1.out W (HB.out.trans (hW.mono HB.out.size))).1, (HC1.out W (HB.out.trans (hW.mono HB.out.size))).2, (HC2.out W (HB.out.trans (hW.mono HB.out.size))).1, (HC2.out W (HB.out.trans (hW.mono HB.out.size))).2⟩)
            refine wp_region_held_drew (S := fun W => W.cell? ⟨b, o + j * 2, none⟩ = some (.int .i64 s.1) ∧ W.cell? ⟨b, o + j * 2 + 1, none⟩ = some (.int .i64 s.2) ∧ W.cell? ⟨b2, o2 + j * 2, none⟩ = some (.int .i64 t.1) ∧ W.cell? ⟨b2, o2 + j * 2 + 1, none⟩ = some (.int .i64 t.2)) (by kernel_rfl) (HSB.out _ HE.out) (fun hHeld => ?_)
            refine wpAnyH_take (i := 0) (v := .slice (some ⟨b, o, none⟩) n cap) rfl (by kernel_rfl) (by kernel_rfl) (by kernel_rfl) (fun _ _ _ h => nomatch h.1) (Or.inl ⟨by rfl, fun w _ => by go_simp⟩) hHeld ?_
            simp only [Act.put, List.getElem_toArray, List.getElem_cons_zero, List.getElem_cons_succ, List.setIfInBounds_toArray, List.set_cons_zero, List.set_cons_succ]
            refine wpAnyH_take (i := 1) (v := .int .i64 j) rfl (by kernel_rfl) (by kernel_rfl) (by kernel_rfl) (fun _ _ _ h => nomatch h.1) (Or.inl ⟨by rfl, fun w _ => by go_simp⟩) hHeld ?_
            simp only [Act.put, List.getElem_toArray, List.getElem_cons_zero, List.getElem_cons_succ, List.setIfInBounds_toArray, List.set_cons_zero, List.set_cons_succ]
            refine wpAnyH_take (i := 2) (v := .pointer (some ⟨b, o + j * 2, none⟩)) rfl (by kernel_rfl) (by kernel_rfl) (by kernel_rfl) (fun _ _ _ h => nomatch h.1) (Or.inl ⟨by rfl, fun w _ => by go_simp⟩) hHeld ?_
            simp only [Act.put, List.getElem_toArray, List.getElem_cons_zero, List.getElem_cons_succ, List.setIfInBounds_toArray, List.set_cons_zero, List.set_cons_succ]
            refine wpAnyH_take (i := 3) (v := .agg #[.int .i64 s.1, .int .i64 s.2]) rfl (by kernel_rfl) (by kernel_rfl) (by kernel_rfl) (fun _ _ _ h => nomatch h.1) (Or.inl ⟨by rfl, fun w hw => by obtain ⟨h1, h2, h3, h4⟩ := hw; go_simp⟩) hHeld ?_
            simp only [Act.put, List.getElem_toArray, List.getElem_cons_zero, List.getElem_cons_succ, List.setIfInBounds_toArray, List.set_cons_zero, List.set_cons_succ]
            refine wpAnyH_take (i := 4) (v := .slice (some ⟨b2, o2, none⟩) n cap2) rfl (by kernel_rfl) (by kernel_rfl) (by kernel_rfl) (fun _ _ _ h => nomatch h.1) (Or.inl ⟨by rfl, fun w _ => by go_simp⟩) hHeld ?_
            simp only [Act.put, List.getElem_toArray, List.getElem_cons_zero, List.getElem_cons_succ, List.setIfInBounds_toArray, List.set_cons_zero, List.set_cons_succ]
            refine wpAnyH_take (i := 5) (v := .int .i64 j) rfl (by kernel_rfl) (by kernel_rfl) (by kernel_rfl) (fun _ _ _ h => nomatch h.1) (Or.inl ⟨by rfl, fun w _ => by go_simp⟩) hHeld ?_
            simp only [Act.put, List.getElem_toArray, List.getElem_cons_zero, List.getElem_cons_succ, List.setIfInBounds_toArray, List.set_cons_zero, List.set_cons_succ]
            refine wpAnyH_take (i := 6) (v := .pointer (some ⟨b2, o2 + j * 2, none⟩)) rfl (by kernel_rfl) (by kernel_rfl) (by kernel_rfl) (fun _ _ _ h => nomatch h.1) (Or.inl ⟨by rfl, fun w _ => by go_simp⟩) hHeld ?_
            simp only [Act.put, List.getElem_toArray, List.getElem_cons_zero, List.getElem_cons_succ, List.setIfInBounds_toArray, List.set_cons_zero, List.set_cons_succ]
            refine wpAnyH_take (i := 7) (v := .agg #[.int .i64 t.1, .int .i64 t.2]) rfl (by kernel_rfl) (by kernel_rfl) (by kernel_rfl) (fun _ _ _ h => nomatch h.1) (Or.inl ⟨by rfl, fun w hw => by obtain ⟨h1, h2, h3, h4⟩ := hw; go_simp⟩) hHeld ?_
            simp only [Act.put, List.getElem_toArray, List.getElem_cons_zero, List.getElem_cons_succ, List.setIfInBounds_toArray, List.set_cons_zero, List.set_cons_succ]
            refine wpAnyH_take (i := 8) (v := .bool false) rfl (by kernel_rfl) (by kernel_rfl) (by kernel_rfl) (fun _ _ _ h => nomatch h.1) (Or.inl ⟨by rfl, fun w _ => (run_neDot (.tmp 20) (.tmp 24) _ _ true rfl rfl rfl (by rw [equal_dot, HEQ.out]))⟩) hHeld ?_
            simp only [Act.put, List.getElem_toArray, List.getElem_cons_zero, List.getElem_cons_succ, List.setIfInBounds_toArray, List.set_cons_zero, List.set_cons_succ]
            refine wpAnyH_done (by kernel_rfl) ?_ _
            exact ⟨rfl, writes_ex (by kernel_rfl) (⟨rfl, HE.out⟩)⟩
          rintro f w1 ⟨e25, hb1⟩
          have HB1 := Lib.hid (HB.out.trans (hb1.mono HB.out.size))
          clear hb1
          refine hK0 _ _ ?_
          clear hK0 K0
          simp only [writes, List.foldl_cons, List.foldl_nil, Act.put, List.setIfInBounds_toArray, List.set_cons_zero, List.set_cons_succ]
          rw [e25]
          clear e25
          go_wp2_with fail
          go_roundw
          case rel => exact ⟨j + 1, by omega, by go_num, HRES.out, HB1.out⟩
          case measure => simp [intOf]; omega
        · have HRES : Hid (false = R) := Lib.hid (HNO.out (fun h => he (by subst h; rfl)))
          have HEQ : Hid ((l[j].1 == m[j].1 && l[j].2 == m[j].2) = false) := Lib.hid (by rw [dt_beq, decide_eq_false he])
          generalize l[j] = s at *
          generalize m[j] = t at *
          clear hb hq hc hc2 d0 d1 e0 e1 he
          go_wp2_with fail
          rename_i K0 hK0
          refine region_writes [17, 18, 19, 20, 21, 22, 23, 24, 25] (fun f W => f 25 = .bool true ∧ Below wr.heap.size wr W) ?_ ?_
          rotate_left
          · clear hK0 K0
            have HE : Hid (Below wr.heap.size wr wr.drew) := Lib.hid ((Below.refl _ _).drew)
            have HSB : Hid (∀ W, Below wr.heap.size wr W → (W.cell? ⟨b, o + j * 2, none⟩ = some (.int .i64 s.1) ∧ W.cell? ⟨b, o + j * 2 + 1, none⟩ = some (.int .i64 s.2) ∧ W.cell? ⟨b2, o2 + j * 2, none⟩ = some (.int .i64 t.1) ∧ W.cell? ⟨b2, o2 + j * 2 + 1, none⟩ = some (.int .i64 t.2))) := Lib.hid (fun W hW => ⟨(HC1.out W (HB.out.trans (hW.mono HB.out.size))).1, (HC1.out W (HB.out.trans (hW.mono HB.out.size))).2, (HC2.out W (HB.out.trans (hW.mono HB.out.size))).1, (HC2.out W (HB.out.trans (hW.mono HB.out.size))).2⟩)
            refine wp_region_held_drew (S := fun W => W.cell? ⟨b, o + j * 2, none⟩ = some (.int .i64 s.1) ∧ W.cell? ⟨b, o + j * 2 + 1, none⟩ = some (.int .i64 s.2) ∧ W.cell? ⟨b2, o2 + j * 2, none⟩ = some (.int .i64 t.1) ∧ W.cell? ⟨b2, o2 + j * 2 + 1, none⟩ = some (.int .i64 t.2)) (by kernel_rfl) (HSB.out _ HE.out) (fun hHeld => ?_)
            refine wpAnyH_take (i := 0) (v := .slice (some ⟨b, o, none⟩) n cap) rfl (by kernel_rfl) (by kernel_rfl) (by kernel_rfl) (fun _ _ _ h => nomatch h.1) (Or.inl ⟨by rfl, fun w _ => by go_simp⟩) hHeld ?_
            simp only [Act.put, List.getElem_toArray, List.getElem_cons_zero, List.getElem_cons_succ, List.setIfInBounds_toArray, List.set_cons_zero, List.set_cons_succ]
            refine wpAnyH_take (i := 1) (v := .int .i64 j) rfl (by kernel_rfl) (by kernel_rfl) (by kernel_rfl) (fun _ _ _ h => nomatch h.1) (Or.inl ⟨by rfl, fun w _ => by go_simp⟩) hHeld ?_
            simp only [Act.put, List.getElem_toArray, List.getElem_cons_zero, List.getElem_cons_succ, List.setIfInBounds_toArray, List.set_cons_zero, List.set_cons_succ]
            refine wpAnyH_take (i := 2) (v := .pointer (some ⟨b, o + j * 2, none⟩)) rfl (by kernel_rfl) (by kernel_rfl) (by kernel_rfl) (fun _ _ _ h => nomatch h.1) (Or.inl ⟨by rfl, fun w _ => by go_simp⟩) hHeld ?_
            simp only [Act.put, List.getElem_toArray, List.getElem_cons_zero, List.getElem_cons_succ, List.setIfInBounds_toArray, List.set_cons_zero, List.set_cons_succ]
            refine wpAnyH_take (i := 3) (v := .agg #[.int .i64 s.1, .int .i64 s.2]) rfl (by kernel_rfl) (by kernel_rfl) (by kernel_rfl) (fun _ _ _ h => nomatch h.1) (Or.inl ⟨by rfl, fun w hw => by obtain ⟨h1, h2, h3, h4⟩ := hw; go_simp⟩) hHeld ?_
            simp only [Act.put, List.getElem_toArray, List.getElem_cons_zero, List.getElem_cons_succ, List.setIfInBounds_toArray, List.set_cons_zero, List.set_cons_succ]
            refine wpAnyH_take (i := 4) (v := .slice (some ⟨b2, o2, none⟩) n cap2) rfl (by kernel_rfl) (by kernel_rfl) (by kernel_rfl) (fun _ _ _ h => nomatch h.1) (Or.inl ⟨by rfl, fun w _ => by go_simp⟩) hHeld ?_
            simp only [Act.put, List.getElem_toArray, List.getElem_cons_zero, List.getElem_cons_succ, List.setIfInBounds_toArray, List.set_cons_zero, List.set_cons_succ]
            refine wpAnyH_take (i := 5) (v := .int .i64 j) rfl (by kernel_rfl) (by kernel_rfl) (by kernel_rfl) (fun _ _ _ h => nomatch h.1) (Or.inl ⟨by rfl, fun w _ => by go_simp⟩) hHeld ?_
            simp only [Act.put, List.getElem_toArray, List.getElem_cons_zero, List.getElem_cons_succ, List.setIfInBounds_toArray, List.set_cons_zero, List.set_cons_succ]
            refine wpAnyH_take (i := 6) (v := .pointer (some ⟨b2, o2 + j * 2, none⟩)) rfl (by kernel_rfl) (by kernel_rfl) (by kernel_rfl) (fun _ _ _ h => nomatch h.1) (Or.inl ⟨by rfl, fun w _ => by go_simp⟩) hHeld ?_
            simp only [Act.put, List.getElem_toArray, List.getElem_cons_zero, List.getElem_cons_succ, List.setIfInBounds_toArray, List.set_cons_zero, List.set_cons_succ]
            refine wpAnyH_take (i := 7) (v := .agg #[.int .i64 t.1, .int .i64 t.2]) rfl (by kernel_rfl) (by kernel_rfl) (by kernel_rfl) (fun _ _ _ h => nomatch h.1) (Or.inl ⟨by rfl, fun w hw => by obtain ⟨h1, h2, h3, h4⟩ := hw; go_simp⟩) hHeld ?_
            simp only [Act.put, List.getElem_toArray, List.getElem_cons_zero, List.getElem_cons_succ, List.setIfInBounds_toArray, List.set_cons_zero, List.set_cons_succ]
            refine wpAnyH_take (i := 8) (v := .bool true) rfl (by kernel_rfl) (by kernel_rfl) (by kernel_rfl) (fun _ _ _ h => nomatch h.1) (Or.inl ⟨by rfl, fun w _ => (run_neDot (.tmp 20) (.tmp 24) _ _ false rfl rfl rfl (by rw [equal_dot, HEQ.out]))⟩) hHeld ?_
            simp only [Act.put, List.getElem_toArray, List.getElem_cons_zero, List.getElem_cons_succ, List.setIfInBounds_toArray, List.set_cons_zero, List.set_cons_succ]
            refine wpAnyH_done (by kernel_rfl) ?_ _
            exact ⟨rfl, writes_ex (by kernel_rfl) (⟨rfl, HE.out⟩)⟩
          rintro f w1 ⟨e25, hb1⟩
          have HB1 := Lib.hid (HB.out.trans (hb1.mono HB.out.size))
          clear hb1
          refine hK0 _ _ ?_
          clear hK0 K0
          simp only [writes, List.foldl_cons, List.foldl_nil, Act.put, List.setIfInBounds_toArray, List.set_cons_zero, List.set_cons_succ]
          rw [e25]
          clear e25
          go_wp2_with fail
          go_ret
          exact ⟨by rw [← HRES.out]; rfl, HB1.out⟩
      · obtain rfl : j = n := by omega
        have HRES : Hid (true = R) := Lib.hid (HYES.out (by
          rw [← List.take_of_length_le (l := l) (i := j) (by rw [HN.out]; exact Nat.le_refl _), hq, List.take_of_length_le (by rw [← HNM.out, HN.out]; exact Nat.le_refl _)]))
        go_wp2_with fail
        go_ret
        exact ⟨by rw [← HRES.out]; rfl, HB.out⟩
  · rw [decide_eq_false (fun h => hlen (by rw [h]))]
    have f1 : ((l.length : Int) != (m.length : Int)) = true := bne_iff_ne.2 (fun h => hlen (Int.ofNat.inj h))
    clear hl hm2
    generalize l.length = n at *
    generalize m.length = k at *
    go_enter Try.func20, Try.ntmps20
    go_wp2_with fail
    go_ret
    exact ⟨rfl, HB0.out⟩

set_option maxRecDepth 100000 in
set_option maxHeartbeats 800000 in
theorem rMost12_any (a : Option Addr) (cap : Nat) (l : List Dt) (a2 : Option Addr) (cap2 : Nat) (m : List Dt) (w : World) (hl : RdDt w.heap.size w a l) (hm2 : RdDt w.heap.size w a2 m) :
    Calls Try.prog 35 #[.slice a l.length cap, .slice a2 m.length cap2] w fun e w' => e = .returned (.bool (decide (leV l m))) ∧ Below w.heap.size w w' := by
  have hm := hl.1
  unfold maxLen at hm
  have HB0 := Lib.hid (Below.refl w.heap.size w)
  have HR1 := Lib.hid hl
  have HAT := Lib.hid (fun k W (h : Below w.heap.size w W) => rAt12_any a2 cap2 m k W (hm2.call h))
  obtain ⟨R, hR⟩ := exEqD (decide (leV l m))
  have HYES := Lib.hid (fun h : leV l m => (decide_eq_true h).symm.trans hR)
  have HNO := Lib.hid (fun h : ¬ leV l m => (decide_eq_false h).symm.trans hR)
  rw [hR]
  obtain ⟨q, hq0⟩ := exEqD m.length
  rw [hq0] at HAT ⊢
  obtain ⟨n, hn⟩ := exEqD l.length
  have HN := Lib.hid hn
  rw [hn] at hm ⊢
  clear hl hm2 hR hn hq0
  go_enter Try.func35, Try.ntmps35
  go_wp2_with fail
  go_loopw [5] (fun i wr => ∃ j : Nat, j ≤ n ∧ i = .int .i64 j ∧ (∀ d ∈ l.take j, d.2 ≤ atV m d.1) ∧ Below w.heap.size w wr) (fun i _ => n - (intOf i).toNat)
  case atStart => exact ⟨0, by omega, rfl, (fun d h => by simp at h), HB0.out⟩
  case round =>
    clear HB0
    obtain ⟨j, hj, rfl, hq, hb⟩ := hrel
    have HB := Lib.hid hb
    by_cases hlt : j < n
    · have hjl : j < l.length := by rw [HN.out]; exact hlt
      obtain ⟨b, o, rfl, hbB, hc⟩ := HR1.out.at_ (by omega)
      obtain ⟨d0, d1⟩ := hc j hjl
      have b0 : (0 : Int) ≤ (j : Int) := Int.natCast_nonneg _
      have b1 : (j : Int) < (n : Int) := by omega
      have HC1 : Hid (∀ W, Below w.heap.size w W → W.cell? ⟨b, o + j * 2, none⟩ = some (.int .i64 (l[j]).1) ∧ W.cell? ⟨b, o + j * 2 + 1, none⟩ = some (.int .i64 (l[j]).2)) := Lib.hid (fun W hW => ⟨(hW.cell (p := ⟨b, o + j * 2, none⟩) hbB).trans d0, (hW.cell (p := ⟨b, o + j * 2 + 1, none⟩) hbB).trans d1⟩)
      have KA := Lib.hid (fun W h => HAT.out l[j].1 W h)
      by_cases he : l[j].2 ≤ atV m l[j].1
      · have HRES : Hid (∀ d ∈ l.take (j + 1), d.2 ≤ atV m d.1) := Lib.hid (fun d hd => by
          rw [List.take_succ_eq_append_getElem hjl] at hd
          rcases List.mem_append.1 hd with hd | hd
          · exact hq d hd
          · rw [List.mem_singleton.1 hd]; exact he)
        have g1 : decide (atV m l[j].1 < l[j].2) = false := decide_eq_false (by omega)
        generalize l[j] = s at *
        generalize atV m s.1 = v at *
        clear hb hq hc d0 d1 he HAT
        go_wp2_with fail
        rename_i K0 hK0
        refine region_writes [12, 13, 14, 15, 16, 17, 18, 19, 20, 21, 22, 23, 24] (fun f W => f 24 = .bool false ∧ Below wr.heap.size wr W) ?_ ?_
        rotate_left
        · clear hK0 K0
          have HE : Hid (Below wr.heap.size wr wr.drew) := Lib.hid ((Below.refl _ _).drew)
          have HSB : Hid (∀ W, Below wr.heap.size wr W → (W.cell? ⟨b, o + j * 2, none⟩ = some (.int .i64 s.1) ∧ W.cell? ⟨b, o + j * 2 + 1, none⟩ = some (.int .i64 s.2))) := Lib.hid (fun W hW => HC1.out W (HB.out.trans (hW.mono HB.out.size)))
          refine wp_region_held_drew (S := fun W => W.cell? ⟨b, o + j * 2, none⟩ = some (.int .i64 s.1) ∧ W.cell? ⟨b, o + j * 2 + 1, none⟩ = some (.int .i64 s.2)) (by kernel_rfl) (HSB.out _ HE.out) (fun hHeld => ?_)
          refine wpAnyH_take (i := 0) (v := .slice (some ⟨b, o, none⟩) n cap) rfl (by kernel_rfl) (by kernel_rfl) (by kernel_rfl) (fun _ _ _ h => nomatch h.1) (Or.inl ⟨by rfl, fun w _ => by go_simp⟩) hHeld ?_
          simp only [Act.put, List.getElem_toArray, List.getElem_cons_zero, List.getElem_cons_succ, List.setIfInBounds_toArray, List.set_cons_zero, List.set_cons_succ]
          refine wpAnyH_take (i := 1) (v := .int .i64 j) rfl (by kernel_rfl) (by kernel_rfl) (by kernel_rfl) (fun _ _ _ h => nomatch h.1) (Or.inl ⟨by rfl, fun w _ => by go_simp⟩) hHeld ?_
          simp only [Act.put, List.getElem_toArray, List.getElem_cons_zero, List.getElem_cons_succ, List.setIfInBounds_toArray, List.set_cons_zero, List.set_cons_succ]
          refine wpAnyH_take (i := 2) (v := .pointer (some ⟨b, o + j * 2, none⟩)) rfl (by kernel_rfl) (by kernel_rfl) (by kernel_rfl) (fun _ _ _ h => nomatch h.1) (Or.inl ⟨by rfl, fun w _ => by go_simp⟩) hHeld ?_
          simp only [Act.put, List.getElem_toArray, List.getElem_cons_zero, List.getElem_cons_succ, List.setIfInBounds_toArray, List.set_cons_zero, List.set_cons_succ]
          refine wpAnyH_take (i := 3) (v := .pointer (some ⟨b, o + j * 2 + 1, none⟩)) rfl (by kernel_rfl) (by kernel_rfl) (by kernel_rfl) (fun _ _ _ h => nomatch h.1) (Or.inl ⟨by rfl, fun w _ => by go_simp⟩) hHeld ?_
          simp only [Act.put, List.getElem_toArray, List.getElem_cons_zero, List.getElem_cons_succ, List.setIfInBounds_toArray, List.set_cons_zero, List.set_cons_succ]
          refine wpAnyH_take (i := 4) (v := .int .i64 s.2) rfl (by kernel_rfl) (by kernel_rfl) (by kernel_rfl) (fun _ _ _ h => nomatch h.1) (Or.inl ⟨by rfl, fun w hw => by obtain ⟨h1, h2⟩ := hw; go_simp⟩) hHeld ?_
          simp only [Act.put, List.getElem_toArray, List.getElem_cons_zero, List.getElem_cons_succ, List.setIfInBounds_toArray, List.set_cons_zero, List.set_cons_succ]
          refine wpAnyH_take (i := 5) (v := .slice a2 q cap2) rfl (by kernel_rfl) (by kernel_rfl) (by kernel_rfl) (fun _ _ _ h => nomatch h.1) (Or.inl ⟨by rfl, fun w _ => by go_simp⟩) hHeld ?_
          simp only [Act.put, List.getElem_toArray, List.getElem_cons_zero, List.getElem_cons_succ, List.setIfInBounds_toArray, List.set_cons_zero, List.set_cons_succ]
          refine wpAnyH_take (i := 6) (v := .slice (some ⟨b, o, none⟩) n cap) rfl (by kernel_rfl) (by kernel_rfl) (by kernel_rfl) (fun _ _ _ h => nomatch h.1) (Or.inl ⟨by rfl, fun w _ => by go_simp⟩) hHeld ?_
          simp only [Act.put, List.getElem_toArray, List.getElem_cons_zero, List.getElem_cons_succ, List.setIfInBounds_toArray, List.set_cons_zero, List.set_cons_succ]
          refine wpAnyH_take (i := 7) (v := .int .i64 j) rfl (by kernel_rfl) (by kernel_rfl) (by kernel_rfl) (fun _ _ _ h => nomatch h.1) (Or.inl ⟨by rfl, fun w _ => by go_simp⟩) hHeld ?_
          simp only [Act.put, List.getElem_toArray, List.getElem_cons_zero, List.getElem_cons_succ, List.setIfInBounds_toArray, List.set_cons_zero, List.set_cons_succ]
          refine wpAnyH_take (i := 8) (v := .pointer (some ⟨b, o + j * 2, none⟩)) rfl (by kernel_rfl) (by kernel_rfl) (by kernel_rfl) (fun _ _ _ h => nomatch h.1) (Or.inl ⟨by rfl, fun w _ => by go_simp⟩) hHeld ?_
          simp only [Act.put, List.getElem_toArray, List.getElem_cons_zero, List.getElem_cons_succ, List.setIfInBounds_toArray, List.set_cons_zero, List.set_cons_succ]
          refine wpAnyH_take (i := 9) (v := .pointer (some ⟨b, o + j * 2, none⟩)) rfl (by kernel_rfl) (by kernel_rfl) (by kernel_rfl) (fun _ _ _ h => nomatch h.1) (Or.inl ⟨by rfl, fun w _ => by go_simp⟩) hHeld ?_
          simp only [Act.put, List.getElem_toArray, List.getElem_cons_zero, List.getElem_cons_succ, List.setIfInBounds_toArray, List.set_cons_zero, List.set_cons_succ]
          refine wpAnyH_take (i := 10) (v := .int .i64 s.1) rfl (by kernel_rfl) (by kernel_rfl) (by kernel_rfl) (fun _ _ _ h => nomatch h.1) (Or.inl ⟨by rfl, fun w hw => by obtain ⟨h1, h2⟩ := hw; go_simp⟩) hHeld ?_
          simp only [Act.put, List.getElem_toArray, List.getElem_cons_zero, List.getElem_cons_succ, List.setIfInBounds_toArray, List.set_cons_zero, List.set_cons_succ]
          refine wpAnyH_ready (rs := [11]) (by kernel_rfl) (by simp) (AllReadyH.cons rfl (fun K hK => ?_) AllReadyH.nil)
          rw [if_pos (by rfl)]
          go_simp
          with_reducible refine (KA.out wr.drew (HB.out.trans (HE.out.mono HB.out.size))).mono ?_
          rintro e wo ⟨rfl, hwo⟩
          rw [hwo]
          clear hwo wo
          refine hK.out _ _ (HSB.out _ HE.out) (fun hHeld => ?_)
          clear hK K
          try simp only [Act.put, List.getElem_toArray, List.getElem_cons_zero, List.getElem_cons_succ, List.setIfInBounds_toArray, List.set_cons_zero, List.set_cons_succ]
          refine wpAnyH_take (i := 12) (v := .bool false) rfl (by kernel_rfl) (by kernel_rfl) (by kernel_rfl) (fun _ _ _ h => nomatch h.1) (Or.inl ⟨by rfl, fun w _ => by go_simp⟩) hHeld ?_
          simp only [Act.put, List.getElem_toArray, List.getElem_cons_zero, List.getElem_cons_succ, List.setIfInBounds_toArray, List.set_cons_zero, List.set_cons_succ]
          refine wpAnyH_done (by kernel_rfl) ?_ _
          exact ⟨rfl, writes_ex (by kernel_rfl) (⟨rfl, HE.out⟩)⟩
        rintro f w1 ⟨e24, hb1⟩
        have HB1 := Lib.hid (HB.out.trans (hb1.mono HB.out.size))
        clear hb1
        refine hK0 _ _ ?_
        clear hK0 K0
        simp only [writes, List.foldl_cons, List.foldl_nil, Act.put, List.setIfInBounds_toArray, List.set_cons_zero, List.set_cons_succ]
        rw [e24]
        clear e24
        go_wp2_with fail
        go_roundw
        case rel => exact ⟨j + 1, by omega, by go_num, HRES.out, HB1.out⟩
        case measure => simp [intOf]; omega
      · have HRES : Hid (false = R) := Lib.hid (HNO.out (fun h => he (h l[j] (List.getElem_mem hjl))))
        have g1 : decide (atV m l[j].1 < l[j].2) = true := decide_eq_true (by omega)
        generalize l[j] = s at *
        generalize atV m s.1 = v at *
        clear hb hq hc d0 d1 he HAT
        go_wp2_with fail
        rename_i K0 hK0
        refine region_writes [12, 13, 14, 15, 16, 17, 18, 19, 20, 21, 22, 23, 24] (fun f W => f 24 = .bool true ∧ Below wr.heap.size wr W) ?_ ?_
        rotate_left
        · clear hK0 K0
          have HE : Hid (Below wr.heap.size wr wr.drew) := Lib.hid ((Below.refl _ _).drew)
          have HSB : Hid (∀ W, Below wr.heap.size wr W → (W.cell? ⟨b, o + j * 2, none⟩ = some (.int .i64 s.1) ∧ W.cell? ⟨b, o + j * 2 + 1, none⟩ = some (.int .i64 s.2))) := Lib.hid (fun W hW => HC1.out W (HB.out.trans (hW.mono HB.out.size)))
          refine wp_region_held_drew (S := fun W => W.cell? ⟨b, o + j * 2, none⟩ = some (.int .i64 s.1) ∧ W.cell? ⟨b, o + j * 2 + 1, none⟩ = some (.int .i64 s.2)) (by kernel_rfl) (HSB.out _ HE.out) (fun hHeld => ?_)
          refine wpAnyH_take (i := 0) (v := .slice (some ⟨b, o, none⟩) n cap) rfl (by kernel_rfl) (by kernel_rfl) (by kernel_rfl) (fun _ _ _ h => nomatch h.1) (Or.inl ⟨by rfl, fun w _ => by go_simp⟩) hHeld ?_
          simp only [Act.put, List.getElem_toArray, List.getElem_cons_zero, List.getElem_cons_succ, List.setIfInBounds_toArray, List.set_cons_zero, List.set_cons_succ]
          refine wpAnyH_take (i := 1) (v := .int .i64 j) rfl (by kernel_rfl) (by kernel_rfl) (by kernel_rfl) (fun _ _ _ h => nomatch h.1) (Or.inl ⟨by rfl, fun w _ => by go_simp⟩) hHeld ?_
          simp only [Act.put, List.getElem_toArray, List.getElem_cons_zero, List.getElem_cons_succ, List.setIfInBounds_toArray, List.set_cons_zero, List.set_cons_succ]
          refine wpAnyH_take (i := 2) (v := .pointer (some ⟨b, o + j * 2, none⟩)) rfl (by kernel_rfl) (by kernel_rfl) (by kernel_rfl) (fun _ _ _ h => nomatch h.1) (Or.inl ⟨by rfl, fun w _ => by go_simp⟩) hHeld ?_
          simp only [Act.put, List.getElem_toArray, List.getElem_cons_zero, List.getElem_cons_succ, List.setIfInBounds_toArray, List.set_cons_zero, List.set_cons_succ]
          refine wpAnyH_take (i := 3) (v := .pointer (some ⟨b, o + j * 2 + 1, none⟩)) rfl (by kernel_rfl) (by kernel_rfl) (by kernel_rfl) (fun _ _ _ h => nomatch h.1) (Or.inl ⟨by rfl, fun w _ => by go_simp⟩) hHeld ?_
          simp only [Act.put, List.getElem_toArray, List.getElem_cons_zero, List.getElem_cons_succ, List.setIfInBounds_toArray, List.set_cons_zero, List.set_cons_succ]
          refine wpAnyH_take (i := 4) (v := .int .i64 s.2) rfl (by kernel_rfl) (by kernel_rfl) (by kernel_rfl) (fun _ _ _ h => nomatch h.1) (Or.inl ⟨by rfl, fun w hw => by obtain ⟨h1, h2⟩ := hw; go_simp⟩) hHeld ?_
          simp only [Act.put, List.getElem_toArray, List.getElem_cons_zero, List.getElem_cons_succ, List.setIfInBounds_toArray, List.set_cons_zero, List.set_cons_succ]
          refine wpAnyH_take (i := 5) (v := .slice a2 q cap2) rfl (by kernel_rfl) (by kernel_rfl) (by kernel_rfl) (fun _ _ _ h => nomatch h.1) (Or.inl ⟨by rfl, fun w _ => by go_simp⟩) hHeld ?_
          simp only [Act.put, List.getElem_toArray, List.getElem_cons_zero, List.getElem_cons_succ, List.setIfInBounds_toArray, List.set_cons_zero, List.set_cons_succ]
          refine wpAnyH_take (i := 6) (v := .slice (some ⟨b, o, none⟩) n cap) rfl (by kernel_rfl) (by kernel_rfl) (by kernel_rfl) (fun _ _ _ h => nomatch h.1) (Or.inl ⟨by rfl, fun w _ => by go_simp⟩) hHeld ?_
          simp only [Act.put, List.getElem_toArray, List.getElem_cons_zero, List.getElem_cons_succ, List.setIfInBounds_toArray, List.set_cons_zero, List.set_cons_succ]
          refine wpAnyH_take (i := 7) (v := .int .i64 j) rfl (by kernel_rfl) (by kernel_rfl) (by kernel_rfl) (fun _ _ _ h => nomatch h.1) (Or.inl ⟨by rfl, fun w _ => by go_simp⟩) hHeld ?_
          simp only [Act.put, List.getElem_toArray, List.getElem_cons_zero, List.getElem_cons_succ, List.setIfInBounds_toArray, List.set_cons_zero, List.set_cons_succ]
          refine wpAnyH_take (i := 8) (v := .pointer (some ⟨b, o + j * 2, none⟩)) rfl (by kernel_rfl) (by kernel_rfl) (by kernel_rfl) (fun _ _ _ h => nomatch h.1) (Or.inl ⟨by rfl, fun w _ => by go_simp⟩) hHeld ?_
          simp only [Act.put, List.getElem_toArray, List.getElem_cons_zero, List.getElem_cons_succ, List.setIfInBounds_toArray, List.set_cons_zero, List.set_cons_succ]
          refine wpAnyH_take (i := 9) (v := .pointer (some ⟨b, o + j * 2, none⟩)) rfl (by kernel_rfl) (by kernel_rfl) (by kernel_rfl) (fun _ _ _ h => nomatch h.1) (Or.inl ⟨by rfl, fun w _ => by go_simp⟩) hHeld ?_
          simp only [Act.put, List.getElem_toArray, List.getElem_cons_zero, List.getElem_cons_succ, List.setIfInBounds_toArray, List.set_cons_zero, List.set_cons_succ]
          refine wpAnyH_take (i := 10) (v := .int .i64 s.1) rfl (by kernel_rfl) (by kernel_rfl) (by kernel_rfl) (fun _ _ _ h => nomatch h.1) (Or.inl ⟨by rfl, fun w hw => by obtain ⟨h1, h2⟩ := hw; go_simp⟩) hHeld ?_
          simp only [Act.put, List.getElem_toArray, List.getElem_cons_zero, List.getElem_cons_succ, List.setIfInBounds_toArray, List.set_cons_zero, List.set_cons_succ]
          refine wpAnyH_ready (rs := [11]) (by kernel_rfl) (by simp) (AllReadyH.cons rfl (fun K hK => ?_) AllReadyH.nil)
          rw [if_pos (by rfl)]
          go_simp
          with_reducible refine (KA.out wr.drew (HB.out.trans (HE.out.mono HB.out.size))).mono ?_
          rintro e wo ⟨rfl, hwo⟩
          rw [hwo]
          clear hwo wo
          refine hK.out _ _ (HSB.out _ HE.out) (fun hHeld => ?_)
          clear hK K
          try simp only [Act.put, List.getElem_toArray, List.getElem_cons_zero, List.getElem_cons_succ, List.setIfInBounds_toArray, List.set_cons_zero, List.set_cons_succ]
          refine wpAnyH_take (i := 12) (v := .bool true) rfl (by kernel_rfl) (by kernel_rfl) (by kernel_rfl) (fun _ _ _ h => nomatch h.1) (Or.inl ⟨by rfl, fun w _ => by go_simp⟩) hHeld ?_
          simp only [Act.put, List.getElem_toArray, List.getElem_cons_zero, List.getElem_cons_succ, List.setIfInBounds_toArray, List.set_cons_zero, List.set_cons_succ]
          refine wpAnyH_done (by kernel_rfl) ?_ _
          exact ⟨rfl, writes_ex (by kernel_rfl) (⟨rfl, HE.out⟩)⟩
        rintro f w1 ⟨e24, hb1⟩
        have HB1 := Lib.hid (HB.out.trans (hb1.mono HB.out.size))
        clear hb1
        refine hK0 _ _ ?_
        clear hK0 K0
        simp only [writes, List.foldl_cons, List.foldl_nil, Act.put, List.setIfInBounds_toArray, List.set_cons_zero, List.set_cons_succ]
        rw [e24]
        clear e24
        go_wp2_with fail
        go_ret
        exact ⟨by rw [← HRES.out]; rfl, HB1.out⟩
    · obtain rfl : j = n := by omega
      have HRES : Hid (true = R) := Lib.hid (HYES.out (by
        intro d hd
        exact hq d (by rw [List.take_of_length_le (by rw [HN.out]; exact Nat.le_refl _)]; exact hd)))
      go_wp2_with fail
      go_ret
      exact ⟨by rw [← HRES.out]; rfl, HB.out⟩

/-- What the check of two answers. -/
def ch2 (l m : List Dt) : Int := if okV l then chV m else 120
set_option maxRecDepth 100000 in
theorem rCheck2_any (a : Option Addr) (cap : Nat) (l : List Dt) (a2 : Option Addr) (cap2 : Nat) (m : List Dt) (w : World) (hl : RdDt w.heap.size w a l) (hm2 : RdDt w.heap.size w a2 m) :
    Calls Try.prog 31 #[.slice a l.length cap, .slice a2 m.length cap2] w fun e w' => e = .returned (.int .i64 (ch2 l m)) ∧ Below w.heap.size w w' := by
  have K1 := Lib.hid (rCheck12_any a cap l w hl)
  have K2 := Lib.hid (fun W (h : Below w.heap.size w W) => rCheck12_any a2 cap2 m W (hm2.call h))
  unfold ch2
  by_cases h : okV l
  · rw [if_pos h]
    rw [chV_ok h] at K1
    obtain ⟨c, hc⟩ := exEqD (chV m)
    rw [hc] at K2 ⊢
    clear hl hm2 h hc
    generalize l.length = n at *
    generalize m.length = q at *
    go_enter Try.func31, Try.ntmps31
    go_wp2_with fail
    with_reducible refine K1.out.mono ?_
    rintro e w1 ⟨rfl, hb⟩
    have HB := Lib.hid hb
    clear hb
    go_wp2_with fail
    with_reducible refine (K2.out _ HB.out).mono ?_
    rintro e w2 ⟨rfl, hb⟩
    have HB2 := Lib.hid (HB.out.trans (hb.mono HB.out.size))
    clear hb
    go_wp2_with fail
    go_ret
    exact ⟨rfl, HB2.out⟩
  · rw [if_neg h]
    rw [chV_bad h] at K1
    clear hl hm2 h
    generalize l.length = n at *
    generalize m.length = q at *
    go_enter Try.func31, Try.ntmps31
    go_wp2_with fail
    with_reducible refine K1.out.mono ?_
    rintro e w1 ⟨rfl, hb⟩
    have HB := Lib.hid hb
    clear hb
    go_wp2_with fail
    go_ret
    exact ⟨rfl, HB.out⟩
end Go.Proofs.Ytfdfaajjlangjaa
