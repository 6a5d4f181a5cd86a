/-
  The walk of chartroomlaw02.DigestHalves.
-/
import Derived.Test.YtndbhmipehpebaaDoorClimbsL
import Derived.LoopTactic
namespace Go.Proofs.YtndbhmipehpebaaDoor
open Go.RowKit

/-- A region whose outcome is said once for all its orders. -/
theorem region_mid {P : Program} {c : Code} {K : Act → World → Prop} {Q : Exit → Act → World → Prop} {a : Act} {w : World} (F : Act → World → Prop) (hK : ∀ a' w', F a' w' → K a' w')
    (h : c.wp P (fun e a' w' => e = .normal ∧ F a' w') a w) : c.wp P (Exit.then K Q) a w :=
  Code.wp_mono (fun e a' w' h => by obtain ⟨rfl, h⟩ := h; exact hK _ _ h) h
theorem wp_storeA {P : Program} {o : Oper} {a : Act} {w : World} {K : Act → World → Prop} {Q : Exit → Act → World → Prop} (ty : TypeId) (x y : Operand) (ho : o.op = .store ty x y)
    (g : Nat) (cells : Array Value) (hx : a.eval x = .pointer (some ⟨g, 0, none⟩)) (hy : a.eval y = .agg cells)
    (t : TypeId) (old : Array Value) (hg : w.heap[g]? = some (.cells old t (0, 0))) (hi : (P.info? ty).map (·.size) = some cells.size)
    (hold : old.size = cells.size) (h1 : cells.all (·.oneCell') = true)
    (h : ∀ w', w'.heap[g]? = some (.cells cells t (0, 0)) → w.grownBy w' (some g) → K (a.put o.dst undef) w') : o.wp P a w K Q :=
  wp_store_row ty x y ho g cells hx hy t old hg hi hold h1 (h _ (setRow_heap w g _ _ t _ hg) ⟨rfl, rfl, rfl, by simp [World.setRow], fun k hk hn => setRow_other w g k _ (fun e => hn (by rw [e]))⟩)
theorem wp_allocA {o : Oper} {a : Act} {w : World} {K : Act → World → Prop} {Q : Exit → Act → World → Prop} (ho : o.op = .alloc 26)
    (h : ∀ w' g, BB w' g 26 (List.replicate 32 0) → w.heap.size ≤ g → Below w.heap.size w w' → K (a.put o.dst (.pointer (some ⟨g, 0, none⟩))) w') : o.wp Tryd.prog a w K Q := by
  have hh := h (w.alloc (.cells (bvA (List.replicate 32 0)) 26)) w.heap.size (BB.new w _ _) (Nat.le_refl _) ((Below.refl _ _).alloc (Nat.le_refl _) _)
  unfold Oper.wp execOp
  have hr : (Instr.alloc 26 true (.tuple #[])).run Tryd.prog w = .ok (.pointer (some ⟨w.heap.size, 0, none⟩)) (w.alloc (.cells (bvA (List.replicate 32 0)) 26)) := by kernel_rfl
  simp only [ho, Sem.run_bind, Sem.run_pure, Result.andThen_ok, hr]
  exact hh

set_option maxRecDepth 100000 in
set_option maxHeartbeats 3200000 in
theorem halves_walk (a : Option Addr) (cap : Nat) (l : List UInt8) (w : World) (hT : Tab w) (hl : RdB w.heap.size w a l) (hcap : l.length ≤ cap) (hc2 : cap ≤ maxLen) :
    Calls Tryd.prog 7 #[.slice a l.length cap] w fun e w' => e = .returned (.bool true) ∧ Below w.heap.size w w' := by
  have HT := Lib.hid hT
  have HL := Lib.hid hl
  have HC2 := Lib.hid hc2
  have hlt := HT.out.lt
  clear hT hl
  unfold maxLen at hc2
  have hqg : Tryd.prog.eqGuardType Tryd.prog.depth 26 = false := by kernel_rfl
  go_enter Tryd.func7, Tryd.ntmps7
  go_wp2_with fail
  refine (sane_any w HT.out).mono ?_
  rintro e w1 ⟨rfl, hb1⟩
  have HB1 := Lib.hid hb1
  clear hb1
  go_wp2_with fail
  refine (digestsOf_any a cap l w1 ((HL.out.below HB1.out).mono HB1.out.size) hcap HC2.out).mono ?_
  rintro e w2 ⟨v2, rfl, ho2, hb2⟩
  have hD24 := digs_len l
  have HD32 := Lib.hid (digs_32 l)
  generalize digs l = D at *
  have HB2 := Lib.hid (HB1.out.trans (hb2.mono HB1.out.size))
  obtain ⟨av, cv, rfl, hf1, hf2, hf3, hf4⟩ := ho2.form
  have HV := Lib.hid hf4
  have HC3 := Lib.hid hf2
  have hlt2 : Tab w2 := HT.out.below HB2.out hlt
  have HT2 := Lib.hid hlt2
  clear ho2 hb2 HB1 hf4 hf3 hlt2
  unfold maxLen at hf2
  have hTL : ∀ W, Below w2.heap.size w2 W → Calls Tryd.prog 17 #[.slice av D.length cv] W fun e w' => e = .returned (.agg (bvA (treeS D))) ∧ Below W.heap.size W w' := fun W hW =>
    tree_any (D.length + 1) av cv D W (Nat.lt_succ_self _) (HT2.out.below hW HT2.out.lt) ((HV.out.below hW).mono hW.size) hf1 HC3.out
  have HTL := Lib.hid hTL
  have heq : ∀ W, (Op.equalIn 10000 26 (.agg (bvA (treeS D))) (.agg (bvA (treeS D)))).run Tryd.prog W = .ok true W := equal_same (treeS D) (treeS_len D)
  clear hTL
  by_cases h0 : D.length = 0
  · obtain rfl := List.eq_nil_of_length_eq_zero h0
    rw [treeS_nil] at heq HTL
    obtain ⟨X, hX⟩ : ∃ X, X = tagS [101, 109, 112, 116, 121] [] := ⟨_, rfl⟩
    have c2 : Hid (∀ W, Below w2.heap.size w2 W → Calls Tryd.prog 14 #[.string ⟨#[101, 109, 112, 116, 121]⟩, .slice none 0 0] W fun e w2 => e = .returned (.agg (bvA X)) ∧ Below W.heap.size W w2) := by
      intro W hW
      rw [hX]
      exact Tagged_any ⟨#[101, 109, 112, 116, 121]⟩ none 0 [] W (HT2.out.below hW HT2.out.lt) ⟨Nat.zero_le _, .inl rfl⟩ (Nat.le_refl _) (Nat.zero_le _) (by decide) (Nat.zero_le _)
    rw [← hX] at heq HTL
    clear hX h0
    go_wp2_with fail
    refine (HTL.out _ (Below.refl _ _)).mono ?_
    rintro e w3 ⟨rfl, hb3⟩
    have HB3 := Lib.hid hb3
    clear hb3
    go_wp2_with fail
    refine (c2.out _ HB3.out).mono ?_
    rintro e w4 ⟨rfl, hb4⟩
    have HB4 := Lib.hid (HB2.out.trans ((HB3.out.trans (hb4.mono HB3.out.size)).mono HB2.out.size))
    clear hb4
    go_wp2_with fail
    go_ret
    exact ⟨rfl, HB4.out⟩
  by_cases h1 : D.length = 1
  · obtain ⟨d, rfl⟩ := List.length_eq_one_iff.1 h1
    obtain ⟨b, o, rfl, hbB, hcell⟩ := HV.out.at_ (by simp)
    have hr := hcell 0 (by simp)
    have hd : d.length = 32 := HV.out.2.1 d (by simp)
    have hrB : RdB w2.heap.size w2 (some ⟨b, o + 0, none⟩) d := ⟨by rw [hd]; unfold maxLen; omega, .inr ⟨b, o + 0, rfl, hbB, fun j hj => by
      have := hr j (bv d[j]) (by simp [hj]); simpa using this⟩⟩
    rw [treeS_one] at heq HTL
    obtain ⟨X, hX⟩ : ∃ X, X = leafS d := ⟨_, rfl⟩
    have HRB := Lib.hid hrB
    have c2 : Hid (∀ W, Below w2.heap.size w2 W → Calls Tryd.prog 14 #[.string ⟨#[108, 101, 97, 102]⟩, .slice (some ⟨b, o + 0, none⟩) 32 32] W fun e w2 => e = .returned (.agg (bvA X)) ∧ Below W.heap.size W w2) := by
      intro W hW
      have h := Tagged_any ⟨#[108, 101, 97, 102]⟩ (some ⟨b, o + 0, none⟩) 32 d W (HT2.out.below hW HT2.out.lt) ((HRB.out.below hW).mono hW.size) (by omega) (by unfold maxLen; omega) (by decide) (by omega)
      rw [hd] at h
      rw [hX]
      exact h
    rw [← hX] at heq HTL
    clear hX h0 h1 hcell hr hd hrB
    have HB := Lib.hid (Below.refl w2.heap.size w2)
    go_wp2_with fail
    go_region_held3 (fun w' => True ∧ True)
      (exact ⟨trivial, trivial⟩)
      (first
        | (go_at_call 17
           refine (HTL.out _ (HB.out.drew)).mono ?_
           rintro e w4 ⟨rfl, hb4⟩
           have HB := Lib.hid (HB.out.drew.trans (hb4.mono HB.out.drew.size))
           clear hb4)
        | (go_at_call 14
           refine (c2.out _ HB.out).mono ?_
           rintro e w4 ⟨rfl, hb4⟩
           have HB := Lib.hid (HB2.out.trans ((HB.out.trans (hb4.mono HB.out.size)).mono HB2.out.size))
           clear hb4))
    all_goals
      go_wp2_with fail
      go_ret
      exact ⟨rfl, HB.out⟩
  have hb := half_bd D.length (by omega)
  obtain ⟨hb1, hb2, hb3⟩ := hb
  obtain ⟨k, hk⟩ : ∃ k, k = half D.length := ⟨_, rfl⟩
  have HK := Lib.hid hk
  rw [← hk] at hb1 hb2 hb3
  clear hk
  obtain ⟨X, hX⟩ : ∃ X, X = treeS (D.take k) := ⟨_, rfl⟩
  obtain ⟨Y, hY⟩ : ∃ Y, Y = treeS (D.drop k) := ⟨_, rfl⟩
  have hXY : treeS D = tagS [110, 111, 100, 101] (X ++ Y) := by rw [treeS_node D (by omega), hX, hY, HK.out]; rfl
  have hX32 : X.length = 32 := by rw [hX]; exact treeS_len _
  have hY32 : Y.length = 32 := by rw [hY]; exact treeS_len _
  have hs1 := sliceD_from av D.length cv k (by omega)
  have hs2 := sliceD_to av D.length cv k (by omega)
  have c1 : Hid (∀ W, Below w2.heap.size w2 W → Calls Tryd.prog 17 #[.slice av k cv] W fun e w2 => e = .returned (.agg (bvA X)) ∧ Below W.heap.size W w2) := by
    intro W hW
    have h := tree_any (D.length + 1) av cv (D.take k) W (by rw [List.length_take]; omega) (HT2.out.below hW HT2.out.lt) (((HV.out.take _).below hW).mono hW.size) (by rw [List.length_take]; omega) HC3.out
    rw [List.length_take, Nat.min_eq_left (by omega), ← hX] at h
    exact h
  have c2 : Hid (∀ W, Below w2.heap.size w2 W → Calls Tryd.prog 17 #[tailD av D.length cv k] W fun e w2 => e = .returned (.agg (bvA Y)) ∧ Below W.heap.size W w2) := by
    intro W hW
    have h := tree_any (D.length + 1) (if cv = k then av else av.map (·.add (k * 32))) (cv - k) (D.drop k) W (by rw [List.length_drop]; omega) (HT2.out.below hW HT2.out.lt) (((HV.out.drop hf1 _).below hW).mono hW.size) (by rw [List.length_drop]; omega) (by unfold maxLen; omega)
    rw [List.length_drop, ← hY] at h
    exact h
  have c3 : Hid (∀ W a5 cap5, Below w2.heap.size w2 W → RdB W.heap.size W a5 (X ++ Y) → (X ++ Y).length ≤ cap5 → cap5 ≤ maxLen → Calls Tryd.prog 14 #[.string ⟨#[110, 111, 100, 101]⟩, .slice a5 (X ++ Y).length cap5] W fun e w2 => e = .returned (.agg (bvA (treeS D))) ∧ Below W.heap.size W w2) := by
    intro W a5 cap5 hW h5 h6 h7
    have hl : (X ++ Y).length = 64 := by rw [List.length_append]; omega
    have h := Tagged_any ⟨#[110, 111, 100, 101]⟩ a5 cap5 (X ++ Y) W (HT2.out.below hW HT2.out.lt) h5 h6 h7 (by decide) (by omega)
    rw [hXY]
    exact h
  generalize treeS D = Z at *
  have HX32 := Lib.hid hX32
  have HY32 := Lib.hid hY32
  have hne0 : ((D.length : Int) == 0) = false := by rw [beq_eq_false_iff_ne]; omega
  have hne1 : ((D.length : Int) == 1) = false := by rw [beq_eq_false_iff_ne]; omega
  have HD : Hid (D.length ≤ 24 ∧ 2 ≤ D.length) := ⟨hD24, by omega⟩
  clear hX hY hXY hX32 hY32 h0 h1 hb2 hb3
  go_wp2_with fail
  go_loop [4] (fun m => ∃ i j : Nat, m = .int .i64 j ∧ j < D.length ∧ Hid (j = 2 ^ i)) (fun m => D.length - (intOf m).toNat)
  case atStart => exact ⟨0, 1, rfl, HD.out.2, Lib.hid rfl⟩
  case round =>
    obtain ⟨i, j, rfl, hj, hji⟩ := hrel
    have hj0 : 1 ≤ j := by have := hji.out; have := @Nat.one_le_two_pow i; omega
    by_cases h2 : 2 * j < D.length
    · go_wp2_with fail
      go_round
      case rel => exact ⟨i + 1, 2 * j, by go_num, h2, by show _ = _; rw [hji.out, Nat.pow_succ]; omega⟩
      case measure => simp [intOf]; omega
    · have hh : j = k := by
        rw [HK.out, hji.out]
        exact half_unique D.length i (by rw [← hji.out]; exact hj) (by rw [Nat.pow_succ, ← hji.out]; omega)
      subst hh
      clear hji HK
      go_wp2_with fail
      rename_i K0 hK0 _
      refine region_mid (fun a' W => ∃ (g5 g6 : Nat) (q32 q33 q34 : Value), a' = ⟨#[.slice a l.length cap, undef, .bool false, .slice av D.length cv, .int .i64 j, .pointer (some ⟨g5, 0, none⟩), .pointer (some ⟨g6, 0, none⟩), .bool true, .bool false, .slice a l.length cap, .slice av D.length cv, .slice av D.length cv, .int .i64 D.length, .bool false, .bool false, undef, undef, undef, undef, .bool false, .bool false, undef, undef, undef, undef, undef, undef, undef, .int .i64 j, .int .i64 (2 * j), .slice av D.length cv, .int .i64 D.length, q32, q33, q34, .slice av D.length cv, .int .i64 j, .slice av j cv, .agg (bvA X), .slice av D.length cv, .int .i64 j, tailD av D.length cv j, .agg (bvA Y), undef, undef, undef, undef, undef, undef, undef, undef, undef], []⟩ ∧ BB W g5 26 X ∧ BB W g6 26 Y ∧ w2.heap.size ≤ g5 ∧ w2.heap.size ≤ g6 ∧ Below w2.heap.size w2 W) ?_ ?_
      · rintro a' W ⟨g5, g6, q32, q33, q34, rfl, hX5, hY6, hg5, hg6, hbW⟩
        refine hK0 _ _ ?_
        have H5 := Lib.hid hX5.drew
        have H6 := Lib.hid hY6.drew
        have HB := Lib.hid hbW.drew
        have HG5 : Hid (g5 < W.heap.size) := hX5.lt
        have HB0 := Lib.hid ((Below.refl W.heap.size W.drew).alloc (Nat.le_refl _) (.cells #[] 5))
        have HG6 : Hid (g6 < W.heap.size) := hY6.lt
        have HBW : Hid (w2.heap.size ≤ W.heap.size) := hbW.size
        obtain ⟨M, hM⟩ : ∃ M, X ++ Y = M := ⟨_, rfl⟩
        have HMM := Lib.hid hM
        have HM64 : Hid (M.length = 64) := by show _ = _; rw [← hM, List.length_append, HX32.out, HY32.out]
        rw [hM] at c3
        clear hX5 hY6 hbW hK0 hM hg5 hg6
        go_wp2_with fail
        go_region_held3 (fun w' => True ∧ True)
          (exact ⟨trivial, trivial⟩)
          (first
            | (go_at_call 17
               refine (HTL.out _ ?_).mono ?_
               · first
                   | exact HB.out
                   | exact HB.out.alloc HB.out.size _
               rintro e w4 ⟨rfl, hb4⟩
               first
                 | (have H5 := Lib.hid (H5.out.below hb4 H5.out.lt); have H6 := Lib.hid (H6.out.below hb4 H6.out.lt); have HS : Hid (W.heap.size ≤ w4.heap.size) := hb4.size; have HB := Lib.hid (HB.out.trans (hb4.mono HB.out.size)); clear hb4)
                 | (have HO := Lib.hid ((OwnB.empty (B := W.heap.size) (w := W.drew) (Nat.le_refl _)).below hb4); have HS : Hid (W.heap.size ≤ w4.heap.size) := Nat.le_trans (HB0.out.size) hb4.size; have H5 := Lib.hid ((H5.out.alloc _).below hb4 (H5.out.alloc _).lt); have H6 := Lib.hid ((H6.out.alloc _).below hb4 (H6.out.alloc _).lt); have HB := Lib.hid ((HB.out.alloc HB.out.size _).trans (hb4.mono (HB.out.alloc HB.out.size _).size)); clear hb4))
            | (go_at_call 14
               refine (c3.out _ _ _ HB.out HO.out.rdOf HO.out.caps.1 HO.out.caps.2).mono ?_
               rintro e w5 ⟨rfl, hb5⟩
               have HB := Lib.hid (HB.out.trans (hb5.mono HB.out.size))
               clear hb5)
            | ((refine step_appBn rfl (.tmp 47) (.tmp 48) rfl W.heap.size _ X Y _ (some ⟨g6, 0, none⟩) 32 (by rfl) (by rfl) HY32.out.symm HO.out (H6.out.rdB (by rw [HY32.out]; unfold maxLen; omega)) (fun h => by cases h) ?_ HS.out ?_
                · rw [HX32.out, HY32.out]; omega
                intro v6 w6 ho6 hg6
                rw [HMM.out] at ho6
                have HB := Lib.hid (HB.out.trans (hg6.below (fun k hk => Nat.le_trans HBW.out (HO.out.base k hk)) HB.out.size))
                have HO := Lib.hid ho6
                obtain ⟨a6, cap6, rfl, _, _⟩ := ho6.form
                clear ho6 hg6))
            | ((refine step_appBn rfl (.tmp 45) (.tmp 46) rfl W.heap.size _ [] X _ (some ⟨g5, 0, none⟩) 32 (by rfl) (by rfl) HX32.out.symm HO.out (H5.out.rdB (by rw [HX32.out]; unfold maxLen; omega)) (fun h => by cases h) ?_ HS.out ?_
                · rw [HX32.out]; simp
                intro v6 w6 ho6 hg6
                have H6 := Lib.hid (BB.grownBy H6.out hg6.grown (fun e => absurd (HO.out.base _ e) (Nat.not_le_of_lt HG6.out)))
                have HS : Hid (W.heap.size ≤ w6.heap.size) := Nat.le_trans HS.out hg6.size
                have HB := Lib.hid (HB.out.trans (hg6.below (fun k hk => Nat.le_trans HBW.out (HO.out.base k hk)) HB.out.size))
                have HO := Lib.hid ho6
                clear ho6 hg6))
            | ((refine step_appBn rfl (.tmp 45) (.tmp 46) rfl W.heap.size _ [] X _ (some ⟨g5, 0, none⟩) 32 (by rfl) (by rfl) HX32.out.symm (OwnB.empty (B := W.heap.size) HS.out) ((H5.out.alloc _).rdB (by rw [HX32.out]; unfold maxLen; omega)) (fun h => by cases h) ?_ (by have := HS.out; simp; omega) ?_
                · rw [HX32.out]; simp
                intro v6 w6 ho6 hg6
                have H6 := Lib.hid (BB.grownBy (H6.out.alloc _) hg6.grown (fun e => by have h1 := HS.out; have h2 := HG6.out; simp [Value.ownBlock] at e; omega))
                have HB := Lib.hid ((HB.out.alloc HB.out.size _).trans (hg6.below (empty_base HB.out.size) (HB.out.alloc HB.out.size _).size))
                have HS : Hid (W.heap.size ≤ w6.heap.size) := by have h1 := HS.out; have h2 := hg6.size; show _ ≤ _; simp at h2; omega
                have HO := Lib.hid ho6
                clear ho6 hg6)))
        all_goals
          go_wp2_with fail
          go_ret
          exact ⟨rfl, HB2.out.trans (HB.out.mono HB2.out.size)⟩
      refine wp_region_held_drew (S := fun _ => True) (by kernel_rfl) trivial (fun hHeld => ?_)
      refine wpAnyH_take (i := 0) (v := .slice av D.length cv) rfl (by kernel_rfl) (by kernel_rfl) (by kernel_rfl) (fun _ _ _ h => nomatch h.1) (Or.inl ⟨by rfl, fun w _ => by go_simp⟩) hHeld ?_
      simp only [Act.put, List.getElem_toArray, List.getElem_cons_zero, List.getElem_cons_succ, List.setIfInBounds_toArray, List.set_cons_zero, List.set_cons_succ]
      refine wpAnyH_take (i := 1) (v := .int .i64 j) rfl (by kernel_rfl) (by kernel_rfl) (by kernel_rfl) (fun _ _ _ h => nomatch h.1) (Or.inl ⟨by rfl, fun w _ => by go_simp⟩) hHeld ?_
      simp only [Act.put, List.getElem_toArray, List.getElem_cons_zero, List.getElem_cons_succ, List.setIfInBounds_toArray, List.set_cons_zero, List.set_cons_succ]
      refine wpAnyH_take (i := 2) (v := .slice av j cv) rfl (by kernel_rfl) (by kernel_rfl) (by kernel_rfl) (fun _ _ _ h => nomatch h.1) (Or.inl ⟨by rfl, fun w _ => by go_simp⟩) hHeld ?_
      simp only [Act.put, List.getElem_toArray, List.getElem_cons_zero, List.getElem_cons_succ, List.setIfInBounds_toArray, List.set_cons_zero, List.set_cons_succ]
      refine wpAnyH_take (i := 4) (v := .slice av D.length cv) rfl (by kernel_rfl) (by kernel_rfl) (by kernel_rfl) (fun _ _ _ h => nomatch h.1) (Or.inl ⟨by rfl, fun w _ => by go_simp⟩) hHeld ?_
      simp only [Act.put, List.getElem_toArray, List.getElem_cons_zero, List.getElem_cons_succ, List.setIfInBounds_toArray, List.set_cons_zero, List.set_cons_succ]
      refine wpAnyH_take (i := 5) (v := .int .i64 j) rfl (by kernel_rfl) (by kernel_rfl) (by kernel_rfl) (fun _ _ _ h => nomatch h.1) (Or.inl ⟨by rfl, fun w _ => by go_simp⟩) hHeld ?_
      simp only [Act.put, List.getElem_toArray, List.getElem_cons_zero, List.getElem_cons_succ, List.setIfInBounds_toArray, List.set_cons_zero, List.set_cons_succ]
      refine wpAnyH_take (i := 6) (v := tailD av D.length cv j) rfl (by kernel_rfl) (by kernel_rfl) (by kernel_rfl) (fun _ _ _ h => nomatch h.1) (Or.inl ⟨by rfl, fun w _ => by go_simp⟩) hHeld ?_
      simp only [Act.put, List.getElem_toArray, List.getElem_cons_zero, List.getElem_cons_succ, List.setIfInBounds_toArray, List.set_cons_zero, List.set_cons_succ]
      have HB0 := Lib.hid ((Below.refl w2.heap.size w2).drew)
      refine wpAnyH_ready (rs := [3, 8, 9]) (by kernel_rfl) (by simp) ?_
      refine AllReadyH.cons rfl (fun K hK => ?_) ?_
      · go_simp
        refine (c1.out _ HB0.out).mono ?_
        rintro e w11 ⟨rfl, hb⟩
        try go_wp2_with fail
        have HB1 := Lib.hid (HB0.out.trans (hb.mono HB0.out.size))
        clear hb
        refine hK.out _ _ trivial (fun hHeld => ?_)
        clear hK K
        try simp only [Act.put, List.getElem_toArray, List.getElem_cons_zero, List.getElem_cons_succ, List.setIfInBounds_toArray, List.set_cons_zero, List.set_cons_succ]
        refine wpAnyH_ready (rs := [7, 8, 9]) (by kernel_rfl) (by simp) ?_
        refine AllReadyH.cons rfl (fun K hK => ?_) ?_
        · go_simp
          refine (c2.out _ HB1.out).mono ?_
          rintro e w12 ⟨rfl, hb⟩
          try go_wp2_with fail
          have HB2 := Lib.hid (HB1.out.trans (hb.mono HB1.out.size))
          clear hb
          refine hK.out _ _ trivial (fun hHeld => ?_)
          clear hK K
          try simp only [Act.put, List.getElem_toArray, List.getElem_cons_zero, List.getElem_cons_succ, List.setIfInBounds_toArray, List.set_cons_zero, List.set_cons_succ]
          refine wpAnyH_ready (rs := [8, 9]) (by kernel_rfl) (by simp) ?_
          refine AllReadyH.cons rfl (fun K hK => ?_) ?_
          · rw [if_pos (by rfl)]
            refine wp_allocA rfl ?_
            intro w13 g5 hn hge hb
            have HB3 := Lib.hid (HB2.out.trans (hb.mono HB2.out.size))
            have HG5 := Lib.hid (Nat.le_trans HB2.out.size hge)
            have H53 := Lib.hid hn
            clear hn hge
            clear hb
            refine hK.out _ _ trivial (fun hHeld => ?_)
            clear hK K
            try simp only [Act.put, List.getElem_toArray, List.getElem_cons_zero, List.getElem_cons_succ, List.setIfInBounds_toArray, List.set_cons_zero, List.set_cons_succ]
            refine wpAnyH_ready (rs := [9]) (by kernel_rfl) (by simp) ?_
            refine AllReadyH.cons rfl (fun K hK => ?_) ?_
            · rw [if_pos (by rfl)]
              refine wp_allocA rfl ?_
              intro w14 g6 hn hge hb
              have HB4 := Lib.hid (HB3.out.trans (hb.mono HB3.out.size))
              have H54 := Lib.hid (H53.out.below hb H53.out.lt)
              have HG6 := Lib.hid (Nat.le_trans HB3.out.size hge)
              have HNE : Hid (g5 ≠ g6) := by show _ ≠ _; have := H53.out.lt; omega
              have H64 := Lib.hid hn
              clear hn hge
              clear hb
              refine hK.out _ _ trivial (fun hHeld => ?_)
              clear hK K
              try simp only [Act.put, List.getElem_toArray, List.getElem_cons_zero, List.getElem_cons_succ, List.setIfInBounds_toArray, List.set_cons_zero, List.set_cons_succ]
              refine wpAnyH_ready (rs := [10]) (by kernel_rfl) (by simp) (AllReadyH.cons rfl (fun K hK => ?_) AllReadyH.nil)
              rw [if_pos (by rfl)]
              refine wp_storeA 26 (.tmp 5) (.tmp 38) rfl _ (bvA X) rfl rfl 26 _ H54.out (by rw [bvA_size, HX32.out]; exact sha_size) (by rw [bvA_size, bvA_size, HX32.out, List.length_replicate]) (bvA_one _) ?_
              intro w15 hn hg
              have HB5 := Lib.hid (grown_below HB4.out hg (HG5.out) HB4.out.size)
              have H55 : Hid (BB w15 _ 26 X) := hn
              have H65 := Lib.hid (H64.out.grownBy hg (fun h => HNE.out (by injection h)))
              refine hK.out _ _ trivial (fun hHeld => ?_)
              clear hK K hn hg
              try simp only [Act.put, List.getElem_toArray, List.getElem_cons_zero, List.getElem_cons_succ, List.setIfInBounds_toArray, List.set_cons_zero, List.set_cons_succ]
              refine wpAnyH_ready (rs := [11]) (by kernel_rfl) (by simp) (AllReadyH.cons rfl (fun K hK => ?_) AllReadyH.nil)
              rw [if_pos (by rfl)]
              refine wp_storeA 26 (.tmp 6) (.tmp 42) rfl _ (bvA Y) rfl rfl 26 _ H65.out (by rw [bvA_size, HY32.out]; exact sha_size) (by rw [bvA_size, bvA_size, HY32.out, List.length_replicate]) (bvA_one _) ?_
              intro w16 hn hg
              have HB6 := Lib.hid (grown_below HB5.out hg (HG6.out) HB5.out.size)
              have H66 : Hid (BB w16 _ 26 Y) := hn
              have H56 := Lib.hid (H55.out.grownBy hg (fun h => HNE.out (by injection h with h; exact h.symm)))
              refine hK.out _ _ trivial (fun hHeld => ?_)
              clear hK K hn hg
              try simp only [Act.put, List.getElem_toArray, List.getElem_cons_zero, List.getElem_cons_succ, List.setIfInBounds_toArray, List.set_cons_zero, List.set_cons_succ]
              refine wpAnyH_done (by kernel_rfl) ?_ _
              exact ⟨rfl, g5, g6, _, _, _, rfl, H56.out, H66.out, HG5.out, HG6.out, HB6.out⟩
            exact AllReadyH.nil
          refine AllReadyH.cons rfl (fun K hK => ?_) ?_
          · rw [if_pos (by rfl)]
            refine wp_allocA rfl ?_
            intro w17 g6 hn hge hb
            have HB7 := Lib.hid (HB2.out.trans (hb.mono HB2.out.size))
            have HG6 := Lib.hid (Nat.le_trans HB2.out.size hge)
            have H67 := Lib.hid hn
            clear hn hge
            clear hb
            refine hK.out _ _ trivial (fun hHeld => ?_)
            clear hK K
            try simp only [Act.put, List.getElem_toArray, List.getElem_cons_zero, List.getElem_cons_succ, List.setIfInBounds_toArray, List.set_cons_zero, List.set_cons_succ]
            refine wpAnyH_ready (rs := [8]) (by kernel_rfl) (by simp) ?_
            refine AllReadyH.cons rfl (fun K hK => ?_) ?_
            · rw [if_pos (by rfl)]
              refine wp_allocA rfl ?_
              intro w18 g5 hn hge hb
              have HB8 := Lib.hid (HB7.out.trans (hb.mono HB7.out.size))
              have H68 := Lib.hid (H67.out.below hb H67.out.lt)
              have HG5 := Lib.hid (Nat.le_trans HB7.out.size hge)
              have HNE : Hid (g5 ≠ g6) := by show _ ≠ _; have := H67.out.lt; omega
              have H58 := Lib.hid hn
              clear hn hge
              clear hb
              refine hK.out _ _ trivial (fun hHeld => ?_)
              clear hK K
              try simp only [Act.put, List.getElem_toArray, List.getElem_cons_zero, List.getElem_cons_succ, List.setIfInBounds_toArray, List.set_cons_zero, List.set_cons_succ]
              refine wpAnyH_ready (rs := [10]) (by kernel_rfl) (by simp) (AllReadyH.cons rfl (fun K hK => ?_) AllReadyH.nil)
              rw [if_pos (by rfl)]
              refine wp_storeA 26 (.tmp 5) (.tmp 38) rfl _ (bvA X) rfl rfl 26 _ H58.out (by rw [bvA_size, HX32.out]; exact sha_size) (by rw [bvA_size, bvA_size, HX32.out, List.length_replicate]) (bvA_one _) ?_
              intro w19 hn hg
              have HB9 := Lib.hid (grown_below HB8.out hg (HG5.out) HB8.out.size)
              have H59 : Hid (BB w19 _ 26 X) := hn
              have H69 := Lib.hid (H68.out.grownBy hg (fun h => HNE.out (by injection h)))
              refine hK.out _ _ trivial (fun hHeld => ?_)
              clear hK K hn hg
              try simp only [Act.put, List.getElem_toArray, List.getElem_cons_zero, List.getElem_cons_succ, List.setIfInBounds_toArray, List.set_cons_zero, List.set_cons_succ]
              refine wpAnyH_ready (rs := [11]) (by kernel_rfl) (by simp) (AllReadyH.cons rfl (fun K hK => ?_) AllReadyH.nil)
              rw [if_pos (by rfl)]
              refine wp_storeA 26 (.tmp 6) (.tmp 42) rfl _ (bvA Y) rfl rfl 26 _ H69.out (by rw [bvA_size, HY32.out]; exact sha_size) (by rw [bvA_size, bvA_size, HY32.out, List.length_replicate]) (bvA_one _) ?_
              intro w20 hn hg
              have HB10 := Lib.hid (grown_below HB9.out hg (HG6.out) HB9.out.size)
              have H610 : Hid (BB w20 _ 26 Y) := hn
              have H510 := Lib.hid (H59.out.grownBy hg (fun h => HNE.out (by injection h with h; exact h.symm)))
              refine hK.out _ _ trivial (fun hHeld => ?_)
              clear hK K hn hg
              try simp only [Act.put, List.getElem_toArray, List.getElem_cons_zero, List.getElem_cons_succ, List.setIfInBounds_toArray, List.set_cons_zero, List.set_cons_succ]
              refine wpAnyH_done (by kernel_rfl) ?_ _
              exact ⟨rfl, g5, g6, _, _, _, rfl, H510.out, H610.out, HG5.out, HG6.out, HB10.out⟩
            exact AllReadyH.nil
          exact AllReadyH.nil
        refine AllReadyH.cons rfl (fun K hK => ?_) ?_
        · rw [if_pos (by rfl)]
          refine wp_allocA rfl ?_
          intro w21 g5 hn hge hb
          have HB11 := Lib.hid (HB1.out.trans (hb.mono HB1.out.size))
          have HG5 := Lib.hid (Nat.le_trans HB1.out.size hge)
          have H511 := Lib.hid hn
          clear hn hge
          clear hb
          refine hK.out _ _ trivial (fun hHeld => ?_)
          clear hK K
          try simp only [Act.put, List.getElem_toArray, List.getElem_cons_zero, List.getElem_cons_succ, List.setIfInBounds_toArray, List.set_cons_zero, List.set_cons_succ]
          refine wpAnyH_ready (rs := [7, 9]) (by kernel_rfl) (by simp) ?_
          refine AllReadyH.cons rfl (fun K hK => ?_) ?_
          · go_simp
            refine (c2.out _ HB11.out).mono ?_
            rintro e w22 ⟨rfl, hb⟩
            try go_wp2_with fail
            have HB12 := Lib.hid (HB11.out.trans (hb.mono HB11.out.size))
            have H512 := Lib.hid (H511.out.below hb H511.out.lt)
            clear hb
            refine hK.out _ _ trivial (fun hHeld => ?_)
            clear hK K
            try simp only [Act.put, List.getElem_toArray, List.getElem_cons_zero, List.getElem_cons_succ, List.setIfInBounds_toArray, List.set_cons_zero, List.set_cons_succ]
            refine wpAnyH_ready (rs := [9]) (by kernel_rfl) (by simp) ?_
            refine AllReadyH.cons rfl (fun K hK => ?_) ?_
            · rw [if_pos (by rfl)]
              refine wp_allocA rfl ?_
              intro w23 g6 hn hge hb
              have HB13 := Lib.hid (HB12.out.trans (hb.mono HB12.out.size))
              have H513 := Lib.hid (H512.out.below hb H512.out.lt)
              have HG6 := Lib.hid (Nat.le_trans HB12.out.size hge)
              have HNE : Hid (g5 ≠ g6) := by show _ ≠ _; have := H512.out.lt; omega
              have H613 := Lib.hid hn
              clear hn hge
              clear hb
              refine hK.out _ _ trivial (fun hHeld => ?_)
              clear hK K
              try simp only [Act.put, List.getElem_toArray, List.getElem_cons_zero, List.getElem_cons_succ, List.setIfInBounds_toArray, List.set_cons_zero, List.set_cons_succ]
              refine wpAnyH_ready (rs := [10]) (by kernel_rfl) (by simp) (AllReadyH.cons rfl (fun K hK => ?_) AllReadyH.nil)
              rw [if_pos (by rfl)]
              refine wp_storeA 26 (.tmp 5) (.tmp 38) rfl _ (bvA X) rfl rfl 26 _ H513.out (by rw [bvA_size, HX32.out]; exact sha_size) (by rw [bvA_size, bvA_size, HX32.out, List.length_replicate]) (bvA_one _) ?_
              intro w24 hn hg
              have HB14 := Lib.hid (grown_below HB13.out hg (HG5.out) HB13.out.size)
              have H514 : Hid (BB w24 _ 26 X) := hn
              have H614 := Lib.hid (H613.out.grownBy hg (fun h => HNE.out (by injection h)))
              refine hK.out _ _ trivial (fun hHeld => ?_)
              clear hK K hn hg
              try simp only [Act.put, List.getElem_toArray, List.getElem_cons_zero, List.getElem_cons_succ, List.setIfInBounds_toArray, List.set_cons_zero, List.set_cons_succ]
              refine wpAnyH_ready (rs := [11]) (by kernel_rfl) (by simp) (AllReadyH.cons rfl (fun K hK => ?_) AllReadyH.nil)
              rw [if_pos (by rfl)]
              refine wp_storeA 26 (.tmp 6) (.tmp 42) rfl _ (bvA Y) rfl rfl 26 _ H614.out (by rw [bvA_size, HY32.out]; exact sha_size) (by rw [bvA_size, bvA_size, HY32.out, List.length_replicate]) (bvA_one _) ?_
              intro w25 hn hg
              have HB15 := Lib.hid (grown_below HB14.out hg (HG6.out) HB14.out.size)
              have H615 : Hid (BB w25 _ 26 Y) := hn
              have H515 := Lib.hid (H514.out.grownBy hg (fun h => HNE.out (by injection h with h; exact h.symm)))
              refine hK.out _ _ trivial (fun hHeld => ?_)
              clear hK K hn hg
              try simp only [Act.put, List.getElem_toArray, List.getElem_cons_zero, List.getElem_cons_succ, List.setIfInBounds_toArray, List.set_cons_zero, List.set_cons_succ]
              refine wpAnyH_done (by kernel_rfl) ?_ _
              exact ⟨rfl, g5, g6, _, _, _, rfl, H515.out, H615.out, HG5.out, HG6.out, HB15.out⟩
            exact AllReadyH.nil
          refine AllReadyH.cons rfl (fun K hK => ?_) ?_
          · rw [if_pos (by rfl)]
            refine wp_allocA rfl ?_
            intro w26 g6 hn hge hb
            have HB16 := Lib.hid (HB11.out.trans (hb.mono HB11.out.size))
            have H516 := Lib.hid (H511.out.below hb H511.out.lt)
            have HG6 := Lib.hid (Nat.le_trans HB11.out.size hge)
            have HNE : Hid (g5 ≠ g6) := by show _ ≠ _; have := H511.out.lt; omega
            have H616 := Lib.hid hn
            clear hn hge
            clear hb
            refine hK.out _ _ trivial (fun hHeld => ?_)
            clear hK K
            try simp only [Act.put, List.getElem_toArray, List.getElem_cons_zero, List.getElem_cons_succ, List.setIfInBounds_toArray, List.set_cons_zero, List.set_cons_succ]
            refine wpAnyH_ready (rs := [7]) (by kernel_rfl) (by simp) ?_
            refine AllReadyH.cons rfl (fun K hK => ?_) ?_
            · go_simp
              refine (c2.out _ HB16.out).mono ?_
              rintro e w27 ⟨rfl, hb⟩
              try go_wp2_with fail
              have HB17 := Lib.hid (HB16.out.trans (hb.mono HB16.out.size))
              have H517 := Lib.hid (H516.out.below hb H516.out.lt)
              have H617 := Lib.hid (H616.out.below hb H616.out.lt)
              clear hb
              refine hK.out _ _ trivial (fun hHeld => ?_)
              clear hK K
              try simp only [Act.put, List.getElem_toArray, List.getElem_cons_zero, List.getElem_cons_succ, List.setIfInBounds_toArray, List.set_cons_zero, List.set_cons_succ]
              refine wpAnyH_ready (rs := [10]) (by kernel_rfl) (by simp) (AllReadyH.cons rfl (fun K hK => ?_) AllReadyH.nil)
              rw [if_pos (by rfl)]
              refine wp_storeA 26 (.tmp 5) (.tmp 38) rfl _ (bvA X) rfl rfl 26 _ H517.out (by rw [bvA_size, HX32.out]; exact sha_size) (by rw [bvA_size, bvA_size, HX32.out, List.length_replicate]) (bvA_one _) ?_
              intro w28 hn hg
              have HB18 := Lib.hid (grown_below HB17.out hg (HG5.out) HB17.out.size)
              have H518 : Hid (BB w28 _ 26 X) := hn
              have H618 := Lib.hid (H617.out.grownBy hg (fun h => HNE.out (by injection h)))
              refine hK.out _ _ trivial (fun hHeld => ?_)
              clear hK K hn hg
              try simp only [Act.put, List.getElem_toArray, List.getElem_cons_zero, List.getElem_cons_succ, List.setIfInBounds_toArray, List.set_cons_zero, List.set_cons_succ]
              refine wpAnyH_ready (rs := [11]) (by kernel_rfl) (by simp) (AllReadyH.cons rfl (fun K hK => ?_) AllReadyH.nil)
              rw [if_pos (by rfl)]
              refine wp_storeA 26 (.tmp 6) (.tmp 42) rfl _ (bvA Y) rfl rfl 26 _ H618.out (by rw [bvA_size, HY32.out]; exact sha_size) (by rw [bvA_size, bvA_size, HY32.out, List.length_replicate]) (bvA_one _) ?_
              intro w29 hn hg
              have HB19 := Lib.hid (grown_below HB18.out hg (HG6.out) HB18.out.size)
              have H619 : Hid (BB w29 _ 26 Y) := hn
              have H519 := Lib.hid (H518.out.grownBy hg (fun h => HNE.out (by injection h with h; exact h.symm)))
              refine hK.out _ _ trivial (fun hHeld => ?_)
              clear hK K hn hg
              try simp only [Act.put, List.getElem_toArray, List.getElem_cons_zero, List.getElem_cons_succ, List.setIfInBounds_toArray, List.set_cons_zero, List.set_cons_succ]
              refine wpAnyH_done (by kernel_rfl) ?_ _
              exact ⟨rfl, g5, g6, _, _, _, rfl, H519.out, H619.out, HG5.out, HG6.out, HB19.out⟩
            exact AllReadyH.nil
          exact AllReadyH.nil
        refine AllReadyH.cons rfl (fun K hK => ?_) ?_
        · rw [if_pos (by rfl)]
          refine wp_allocA rfl ?_
          intro w30 g6 hn hge hb
          have HB20 := Lib.hid (HB1.out.trans (hb.mono HB1.out.size))
          have HG6 := Lib.hid (Nat.le_trans HB1.out.size hge)
          have H620 := Lib.hid hn
          clear hn hge
          clear hb
          refine hK.out _ _ trivial (fun hHeld => ?_)
          clear hK K
          try simp only [Act.put, List.getElem_toArray, List.getElem_cons_zero, List.getElem_cons_succ, List.setIfInBounds_toArray, List.set_cons_zero, List.set_cons_succ]
          refine wpAnyH_ready (rs := [7, 8]) (by kernel_rfl) (by simp) ?_
          refine AllReadyH.cons rfl (fun K hK => ?_) ?_
          · go_simp
            refine (c2.out _ HB20.out).mono ?_
            rintro e w31 ⟨rfl, hb⟩
            try go_wp2_with fail
            have HB21 := Lib.hid (HB20.out.trans (hb.mono HB20.out.size))
            have H621 := Lib.hid (H620.out.below hb H620.out.lt)
            clear hb
            refine hK.out _ _ trivial (fun hHeld => ?_)
            clear hK K
            try simp only [Act.put, List.getElem_toArray, List.getElem_cons_zero, List.getElem_cons_succ, List.setIfInBounds_toArray, List.set_cons_zero, List.set_cons_succ]
            refine wpAnyH_ready (rs := [8]) (by kernel_rfl) (by simp) ?_
            refine AllReadyH.cons rfl (fun K hK => ?_) ?_
            · rw [if_pos (by rfl)]
              refine wp_allocA rfl ?_
              intro w32 g5 hn hge hb
              have HB22 := Lib.hid (HB21.out.trans (hb.mono HB21.out.size))
              have H622 := Lib.hid (H621.out.below hb H621.out.lt)
              have HG5 := Lib.hid (Nat.le_trans HB21.out.size hge)
              have HNE : Hid (g5 ≠ g6) := by show _ ≠ _; have := H621.out.lt; omega
              have H522 := Lib.hid hn
              clear hn hge
              clear hb
              refine hK.out _ _ trivial (fun hHeld => ?_)
              clear hK K
              try simp only [Act.put, List.getElem_toArray, List.getElem_cons_zero, List.getElem_cons_succ, List.setIfInBounds_toArray, List.set_cons_zero, List.set_cons_succ]
              refine wpAnyH_ready (rs := [10]) (by kernel_rfl) (by simp) (AllReadyH.cons rfl (fun K hK => ?_) AllReadyH.nil)
              rw [if_pos (by rfl)]
              refine wp_storeA 26 (.tmp 5) (.tmp 38) rfl _ (bvA X) rfl rfl 26 _ H522.out (by rw [bvA_size, HX32.out]; exact sha_size) (by rw [bvA_size, bvA_size, HX32.out, List.length_replicate]) (bvA_one _) ?_
              intro w33 hn hg
              have HB23 := Lib.hid (grown_below HB22.out hg (HG5.out) HB22.out.size)
              have H523 : Hid (BB w33 _ 26 X) := hn
              have H623 := Lib.hid (H622.out.grownBy hg (fun h => HNE.out (by injection h)))
              refine hK.out _ _ trivial (fun hHeld => ?_)
              clear hK K hn hg
              try simp only [Act.put, List.getElem_toArray, List.getElem_cons_zero, List.getElem_cons_succ, List.setIfInBounds_toArray, List.set_cons_zero, List.set_cons_succ]
              refine wpAnyH_ready (rs := [11]) (by kernel_rfl) (by simp) (AllReadyH.cons rfl (fun K hK => ?_) AllReadyH.nil)
              rw [if_pos (by rfl)]
              refine wp_storeA 26 (.tmp 6) (.tmp 42) rfl _ (bvA Y) rfl rfl 26 _ H623.out (by rw [bvA_size, HY32.out]; exact sha_size) (by rw [bvA_size, bvA_size, HY32.out, List.length_replicate]) (bvA_one _) ?_
              intro w34 hn hg
              have HB24 := Lib.hid (grown_below HB23.out hg (HG6.out) HB23.out.size)
              have H624 : Hid (BB w34 _ 26 Y) := hn
              have H524 := Lib.hid (H523.out.grownBy hg (fun h => HNE.out (by injection h with h; exact h.symm)))
              refine hK.out _ _ trivial (fun hHeld => ?_)
              clear hK K hn hg
              try simp only [Act.put, List.getElem_toArray, List.getElem_cons_zero, List.getElem_cons_succ, List.setIfInBounds_toArray, List.set_cons_zero, List.set_cons_succ]
              refine wpAnyH_done (by kernel_rfl) ?_ _
              exact ⟨rfl, g5, g6, _, _, _, rfl, H524.out, H624.out, HG5.out, HG6.out, HB24.out⟩
            exact AllReadyH.nil
          refine AllReadyH.cons rfl (fun K hK => ?_) ?_
          · rw [if_pos (by rfl)]
            refine wp_allocA rfl ?_
            intro w35 g5 hn hge hb
            have HB25 := Lib.hid (HB20.out.trans (hb.mono HB20.out.size))
            have H625 := Lib.hid (H620.out.below hb H620.out.lt)
            have HG5 := Lib.hid (Nat.le_trans HB20.out.size hge)
            have HNE : Hid (g5 ≠ g6) := by show _ ≠ _; have := H620.out.lt; omega
            have H525 := Lib.hid hn
            clear hn hge
            clear hb
            refine hK.out _ _ trivial (fun hHeld => ?_)
            clear hK K
            try simp only [Act.put, List.getElem_toArray, List.getElem_cons_zero, List.getElem_cons_succ, List.setIfInBounds_toArray, List.set_cons_zero, List.set_cons_succ]
            refine wpAnyH_ready (rs := [7]) (by kernel_rfl) (by simp) ?_
            refine AllReadyH.cons rfl (fun K hK => ?_) ?_
            · go_simp
              refine (c2.out _ HB25.out).mono ?_
              rintro e w36 ⟨rfl, hb⟩
              try go_wp2_with fail
              have HB26 := Lib.hid (HB25.out.trans (hb.mono HB25.out.size))
              have H626 := Lib.hid (H625.out.below hb H625.out.lt)
              have H526 := Lib.hid (H525.out.below hb H525.out.lt)
              clear hb
              refine hK.out _ _ trivial (fun hHeld => ?_)
              clear hK K
              try simp only [Act.put, List.getElem_toArray, List.getElem_cons_zero, List.getElem_cons_succ, List.setIfInBounds_toArray, List.set_cons_zero, List.set_cons_succ]
              refine wpAnyH_ready (rs := [10]) (by kernel_rfl) (by simp) (AllReadyH.cons rfl (fun K hK => ?_) AllReadyH.nil)
              rw [if_pos (by rfl)]
              refine wp_storeA 26 (.tmp 5) (.tmp 38) rfl _ (bvA X) rfl rfl 26 _ H526.out (by rw [bvA_size, HX32.out]; exact sha_size) (by rw [bvA_size, bvA_size, HX32.out, List.length_replicate]) (bvA_one _) ?_
              intro w37 hn hg
              have HB27 := Lib.hid (grown_below HB26.out hg (HG5.out) HB26.out.size)
              have H527 : Hid (BB w37 _ 26 X) := hn
              have H627 := Lib.hid (H626.out.grownBy hg (fun h => HNE.out (by injection h)))
              refine hK.out _ _ trivial (fun hHeld => ?_)
              clear hK K hn hg
              try simp only [Act.put, List.getElem_toArray, List.getElem_cons_zero, List.getElem_cons_succ, List.setIfInBounds_toArray, List.set_cons_zero, List.set_cons_succ]
              refine wpAnyH_ready (rs := [11]) (by kernel_rfl) (by simp) (AllReadyH.cons rfl (fun K hK => ?_) AllReadyH.nil)
              rw [if_pos (by rfl)]
              refine wp_storeA 26 (.tmp 6) (.tmp 42) rfl _ (bvA Y) rfl rfl 26 _ H627.out (by rw [bvA_size, HY32.out]; exact sha_size) (by rw [bvA_size, bvA_size, HY32.out, List.length_replicate]) (bvA_one _) ?_
              intro w38 hn hg
              have HB28 := Lib.hid (grown_below HB27.out hg (HG6.out) HB27.out.size)
              have H628 : Hid (BB w38 _ 26 Y) := hn
              have H528 := Lib.hid (H527.out.grownBy hg (fun h => HNE.out (by injection h with h; exact h.symm)))
              refine hK.out _ _ trivial (fun hHeld => ?_)
              clear hK K hn hg
              try simp only [Act.put, List.getElem_toArray, List.getElem_cons_zero, List.getElem_cons_succ, List.setIfInBounds_toArray, List.set_cons_zero, List.set_cons_succ]
              refine wpAnyH_done (by kernel_rfl) ?_ _
              exact ⟨rfl, g5, g6, _, _, _, rfl, H528.out, H628.out, HG5.out, HG6.out, HB28.out⟩
            exact AllReadyH.nil
          exact AllReadyH.nil
        exact AllReadyH.nil
      refine AllReadyH.cons rfl (fun K hK => ?_) ?_
      · rw [if_pos (by rfl)]
        refine wp_allocA rfl ?_
        intro w39 g5 hn hge hb
        have HB29 := Lib.hid (HB0.out.trans (hb.mono HB0.out.size))
        have HG5 := Lib.hid (Nat.le_trans HB0.out.size hge)
        have H529 := Lib.hid hn
        clear hn hge
        clear hb
        refine hK.out _ _ trivial (fun hHeld => ?_)
        clear hK K
        try simp only [Act.put, List.getElem_toArray, List.getElem_cons_zero, List.getElem_cons_succ, List.setIfInBounds_toArray, List.set_cons_zero, List.set_cons_succ]
        refine wpAnyH_ready (rs := [3, 9]) (by kernel_rfl) (by simp) ?_
        refine AllReadyH.cons rfl (fun K hK => ?_) ?_
        · go_simp
          refine (c1.out _ HB29.out).mono ?_
          rintro e w40 ⟨rfl, hb⟩
          try go_wp2_with fail
          have HB30 := Lib.hid (HB29.out.trans (hb.mono HB29.out.size))
          have H530 := Lib.hid (H529.out.below hb H529.out.lt)
          clear hb
          refine hK.out _ _ trivial (fun hHeld => ?_)
          clear hK K
          try simp only [Act.put, List.getElem_toArray, List.getElem_cons_zero, List.getElem_cons_succ, List.setIfInBounds_toArray, List.set_cons_zero, List.set_cons_succ]
          refine wpAnyH_ready (rs := [7, 9]) (by kernel_rfl) (by simp) ?_
          refine AllReadyH.cons rfl (fun K hK => ?_) ?_
          · go_simp
            refine (c2.out _ HB30.out).mono ?_
            rintro e w41 ⟨rfl, hb⟩
            try go_wp2_with fail
            have HB31 := Lib.hid (HB30.out.trans (hb.mono HB30.out.size))
            have H531 := Lib.hid (H530.out.below hb H530.out.lt)
            clear hb
            refine hK.out _ _ trivial (fun hHeld => ?_)
            clear hK K
            try simp only [Act.put, List.getElem_toArray, List.getElem_cons_zero, List.getElem_cons_succ, List.setIfInBounds_toArray, List.set_cons_zero, List.set_cons_succ]
            refine wpAnyH_ready (rs := [9]) (by kernel_rfl) (by simp) ?_
            refine AllReadyH.cons rfl (fun K hK => ?_) ?_
            · rw [if_pos (by rfl)]
              refine wp_allocA rfl ?_
              intro w42 g6 hn hge hb
              have HB32 := Lib.hid (HB31.out.trans (hb.mono HB31.out.size))
              have H532 := Lib.hid (H531.out.below hb H531.out.lt)
              have HG6 := Lib.hid (Nat.le_trans HB31.out.size hge)
              have HNE : Hid (g5 ≠ g6) := by show _ ≠ _; have := H531.out.lt; omega
              have H632 := Lib.hid hn
              clear hn hge
              clear hb
              refine hK.out _ _ trivial (fun hHeld => ?_)
              clear hK K
              try simp only [Act.put, List.getElem_toArray, List.getElem_cons_zero, List.getElem_cons_succ, List.setIfInBounds_toArray, List.set_cons_zero, List.set_cons_succ]
              refine wpAnyH_ready (rs := [10]) (by kernel_rfl) (by simp) (AllReadyH.cons rfl (fun K hK => ?_) AllReadyH.nil)
              rw [if_pos (by rfl)]
              refine wp_storeA 26 (.tmp 5) (.tmp 38) rfl _ (bvA X) rfl rfl 26 _ H532.out (by rw [bvA_size, HX32.out]; exact sha_size) (by rw [bvA_size, bvA_size, HX32.out, List.length_replicate]) (bvA_one _) ?_
              intro w43 hn hg
              have HB33 := Lib.hid (grown_below HB32.out hg (HG5.out) HB32.out.size)
              have H533 : Hid (BB w43 _ 26 X) := hn
              have H633 := Lib.hid (H632.out.grownBy hg (fun h => HNE.out (by injection h)))
              refine hK.out _ _ trivial (fun hHeld => ?_)
              clear hK K hn hg
              try simp only [Act.put, List.getElem_toArray, List.getElem_cons_zero, List.getElem_cons_succ, List.setIfInBounds_toArray, List.set_cons_zero, List.set_cons_succ]
              refine wpAnyH_ready (rs := [11]) (by kernel_rfl) (by simp) (AllReadyH.cons rfl (fun K hK => ?_) AllReadyH.nil)
              rw [if_pos (by rfl)]
              refine wp_storeA 26 (.tmp 6) (.tmp 42) rfl _ (bvA Y) rfl rfl 26 _ H633.out (by rw [bvA_size, HY32.out]; exact sha_size) (by rw [bvA_size, bvA_size, HY32.out, List.length_replicate]) (bvA_one _) ?_
              intro w44 hn hg
              have HB34 := Lib.hid (grown_below HB33.out hg (HG6.out) HB33.out.size)
              have H634 : Hid (BB w44 _ 26 Y) := hn
              have H534 := Lib.hid (H533.out.grownBy hg (fun h => HNE.out (by injection h with h; exact h.symm)))
              refine hK.out _ _ trivial (fun hHeld => ?_)
              clear hK K hn hg
              try simp only [Act.put, List.getElem_toArray, List.getElem_cons_zero, List.getElem_cons_succ, List.setIfInBounds_toArray, List.set_cons_zero, List.set_cons_succ]
              refine wpAnyH_done (by kernel_rfl) ?_ _
              exact ⟨rfl, g5, g6, _, _, _, rfl, H534.out, H634.out, HG5.out, HG6.out, HB34.out⟩
            exact AllReadyH.nil
          refine AllReadyH.cons rfl (fun K hK => ?_) ?_
          · rw [if_pos (by rfl)]
            refine wp_allocA rfl ?_
            intro w45 g6 hn hge hb
            have HB35 := Lib.hid (HB30.out.trans (hb.mono HB30.out.size))
            have H535 := Lib.hid (H530.out.below hb H530.out.lt)
            have HG6 := Lib.hid (Nat.le_trans HB30.out.size hge)
            have HNE : Hid (g5 ≠ g6) := by show _ ≠ _; have := H530.out.lt; omega
            have H635 := Lib.hid hn
            clear hn hge
            clear hb
            refine hK.out _ _ trivial (fun hHeld => ?_)
            clear hK K
            try simp only [Act.put, List.getElem_toArray, List.getElem_cons_zero, List.getElem_cons_succ, List.setIfInBounds_toArray, List.set_cons_zero, List.set_cons_succ]
            refine wpAnyH_ready (rs := [7]) (by kernel_rfl) (by simp) ?_
            refine AllReadyH.cons rfl (fun K hK => ?_) ?_
            · go_simp
              refine (c2.out _ HB35.out).mono ?_
              rintro e w46 ⟨rfl, hb⟩
              try go_wp2_with fail
              have HB36 := Lib.hid (HB35.out.trans (hb.mono HB35.out.size))
              have H536 := Lib.hid (H535.out.below hb H535.out.lt)
              have H636 := Lib.hid (H635.out.below hb H635.out.lt)
              clear hb
              refine hK.out _ _ trivial (fun hHeld => ?_)
              clear hK K
              try simp only [Act.put, List.getElem_toArray, List.getElem_cons_zero, List.getElem_cons_succ, List.setIfInBounds_toArray, List.set_cons_zero, List.set_cons_succ]
              refine wpAnyH_ready (rs := [10]) (by kernel_rfl) (by simp) (AllReadyH.cons rfl (fun K hK => ?_) AllReadyH.nil)
              rw [if_pos (by rfl)]
              refine wp_storeA 26 (.tmp 5) (.tmp 38) rfl _ (bvA X) rfl rfl 26 _ H536.out (by rw [bvA_size, HX32.out]; exact sha_size) (by rw [bvA_size, bvA_size, HX32.out, List.length_replicate]) (bvA_one _) ?_
              intro w47 hn hg
              have HB37 := Lib.hid (grown_below HB36.out hg (HG5.out) HB36.out.size)
              have H537 : Hid (BB w47 _ 26 X) := hn
              have H637 := Lib.hid (H636.out.grownBy hg (fun h => HNE.out (by injection h)))
              refine hK.out _ _ trivial (fun hHeld => ?_)
              clear hK K hn hg
              try simp only [Act.put, List.getElem_toArray, List.getElem_cons_zero, List.getElem_cons_succ, List.setIfInBounds_toArray, List.set_cons_zero, List.set_cons_succ]
              refine wpAnyH_ready (rs := [11]) (by kernel_rfl) (by simp) (AllReadyH.cons rfl (fun K hK => ?_) AllReadyH.nil)
              rw [if_pos (by rfl)]
              refine wp_storeA 26 (.tmp 6) (.tmp 42) rfl _ (bvA Y) rfl rfl 26 _ H637.out (by rw [bvA_size, HY32.out]; exact sha_size) (by rw [bvA_size, bvA_size, HY32.out, List.length_replicate]) (bvA_one _) ?_
              intro w48 hn hg
              have HB38 := Lib.hid (grown_below HB37.out hg (HG6.out) HB37.out.size)
              have H638 : Hid (BB w48 _ 26 Y) := hn
              have H538 := Lib.hid (H537.out.grownBy hg (fun h => HNE.out (by injection h with h; exact h.symm)))
              refine hK.out _ _ trivial (fun hHeld => ?_)
              clear hK K hn hg
              try simp only [Act.put, List.getElem_toArray, List.getElem_cons_zero, List.getElem_cons_succ, List.setIfInBounds_toArray, List.set_cons_zero, List.set_cons_succ]
              refine wpAnyH_done (by kernel_rfl) ?_ _
              exact ⟨rfl, g5, g6, _, _, _, rfl, H538.out, H638.out, HG5.out, HG6.out, HB38.out⟩
            exact AllReadyH.nil
          exact AllReadyH.nil
        refine AllReadyH.cons rfl (fun K hK => ?_) ?_
        · rw [if_pos (by rfl)]
          refine wp_allocA rfl ?_
          intro w49 g6 hn hge hb
          have HB39 := Lib.hid (HB29.out.trans (hb.mono HB29.out.size))
          have H539 := Lib.hid (H529.out.below hb H529.out.lt)
          have HG6 := Lib.hid (Nat.le_trans HB29.out.size hge)
          have HNE : Hid (g5 ≠ g6) := by show _ ≠ _; have := H529.out.lt; omega
          have H639 := Lib.hid hn
          clear hn hge
          clear hb
          refine hK.out _ _ trivial (fun hHeld => ?_)
          clear hK K
          try simp only [Act.put, List.getElem_toArray, List.getElem_cons_zero, List.getElem_cons_succ, List.setIfInBounds_toArray, List.set_cons_zero, List.set_cons_succ]
          refine wpAnyH_ready (rs := [3]) (by kernel_rfl) (by simp) ?_
          refine AllReadyH.cons rfl (fun K hK => ?_) ?_
          · go_simp
            refine (c1.out _ HB39.out).mono ?_
            rintro e w50 ⟨rfl, hb⟩
            try go_wp2_with fail
            have HB40 := Lib.hid (HB39.out.trans (hb.mono HB39.out.size))
            have H540 := Lib.hid (H539.out.below hb H539.out.lt)
            have H640 := Lib.hid (H639.out.below hb H639.out.lt)
            clear hb
            refine hK.out _ _ trivial (fun hHeld => ?_)
            clear hK K
            try simp only [Act.put, List.getElem_toArray, List.getElem_cons_zero, List.getElem_cons_succ, List.setIfInBounds_toArray, List.set_cons_zero, List.set_cons_succ]
            refine wpAnyH_ready (rs := [7]) (by kernel_rfl) (by simp) ?_
            refine AllReadyH.cons rfl (fun K hK => ?_) ?_
            · go_simp
              refine (c2.out _ HB40.out).mono ?_
              rintro e w51 ⟨rfl, hb⟩
              try go_wp2_with fail
              have HB41 := Lib.hid (HB40.out.trans (hb.mono HB40.out.size))
              have H541 := Lib.hid (H540.out.below hb H540.out.lt)
              have H641 := Lib.hid (H640.out.below hb H640.out.lt)
              clear hb
              refine hK.out _ _ trivial (fun hHeld => ?_)
              clear hK K
              try simp only [Act.put, List.getElem_toArray, List.getElem_cons_zero, List.getElem_cons_succ, List.setIfInBounds_toArray, List.set_cons_zero, List.set_cons_succ]
              refine wpAnyH_ready (rs := [10]) (by kernel_rfl) (by simp) (AllReadyH.cons rfl (fun K hK => ?_) AllReadyH.nil)
              rw [if_pos (by rfl)]
              refine wp_storeA 26 (.tmp 5) (.tmp 38) rfl _ (bvA X) rfl rfl 26 _ H541.out (by rw [bvA_size, HX32.out]; exact sha_size) (by rw [bvA_size, bvA_size, HX32.out, List.length_replicate]) (bvA_one _) ?_
              intro w52 hn hg
              have HB42 := Lib.hid (grown_below HB41.out hg (HG5.out) HB41.out.size)
              have H542 : Hid (BB w52 _ 26 X) := hn
              have H642 := Lib.hid (H641.out.grownBy hg (fun h => HNE.out (by injection h)))
              refine hK.out _ _ trivial (fun hHeld => ?_)
              clear hK K hn hg
              try simp only [Act.put, List.getElem_toArray, List.getElem_cons_zero, List.getElem_cons_succ, List.setIfInBounds_toArray, List.set_cons_zero, List.set_cons_succ]
              refine wpAnyH_ready (rs := [11]) (by kernel_rfl) (by simp) (AllReadyH.cons rfl (fun K hK => ?_) AllReadyH.nil)
              rw [if_pos (by rfl)]
              refine wp_storeA 26 (.tmp 6) (.tmp 42) rfl _ (bvA Y) rfl rfl 26 _ H642.out (by rw [bvA_size, HY32.out]; exact sha_size) (by rw [bvA_size, bvA_size, HY32.out, List.length_replicate]) (bvA_one _) ?_
              intro w53 hn hg
              have HB43 := Lib.hid (grown_below HB42.out hg (HG6.out) HB42.out.size)
              have H643 : Hid (BB w53 _ 26 Y) := hn
              have H543 := Lib.hid (H542.out.grownBy hg (fun h => HNE.out (by injection h with h; exact h.symm)))
              refine hK.out _ _ trivial (fun hHeld => ?_)
              clear hK K hn hg
              try simp only [Act.put, List.getElem_toArray, List.getElem_cons_zero, List.getElem_cons_succ, List.setIfInBounds_toArray, List.set_cons_zero, List.set_cons_succ]
              refine wpAnyH_done (by kernel_rfl) ?_ _
              exact ⟨rfl, g5, g6, _, _, _, rfl, H543.out, H643.out, HG5.out, HG6.out, HB43.out⟩
            exact AllReadyH.nil
          exact AllReadyH.nil
        exact AllReadyH.nil
      refine AllReadyH.cons rfl (fun K hK => ?_) ?_
      · rw [if_pos (by rfl)]
        refine wp_allocA rfl ?_
        intro w54 g6 hn hge hb
        have HB44 := Lib.hid (HB0.out.trans (hb.mono HB0.out.size))
        have HG6 := Lib.hid (Nat.le_trans HB0.out.size hge)
        have H644 := Lib.hid hn
        clear hn hge
        clear hb
        refine hK.out _ _ trivial (fun hHeld => ?_)
        clear hK K
        try simp only [Act.put, List.getElem_toArray, List.getElem_cons_zero, List.getElem_cons_succ, List.setIfInBounds_toArray, List.set_cons_zero, List.set_cons_succ]
        refine wpAnyH_ready (rs := [3, 8]) (by kernel_rfl) (by simp) ?_
        refine AllReadyH.cons rfl (fun K hK => ?_) ?_
        · go_simp
          refine (c1.out _ HB44.out).mono ?_
          rintro e w55 ⟨rfl, hb⟩
          try go_wp2_with fail
          have HB45 := Lib.hid (HB44.out.trans (hb.mono HB44.out.size))
          have H645 := Lib.hid (H644.out.below hb H644.out.lt)
          clear hb
          refine hK.out _ _ trivial (fun hHeld => ?_)
          clear hK K
          try simp only [Act.put, List.getElem_toArray, List.getElem_cons_zero, List.getElem_cons_succ, List.setIfInBounds_toArray, List.set_cons_zero, List.set_cons_succ]
          refine wpAnyH_ready (rs := [7, 8]) (by kernel_rfl) (by simp) ?_
          refine AllReadyH.cons rfl (fun K hK => ?_) ?_
          · go_simp
            refine (c2.out _ HB45.out).mono ?_
            rintro e w56 ⟨rfl, hb⟩
            try go_wp2_with fail
            have HB46 := Lib.hid (HB45.out.trans (hb.mono HB45.out.size))
            have H646 := Lib.hid (H645.out.below hb H645.out.lt)
            clear hb
            refine hK.out _ _ trivial (fun hHeld => ?_)
            clear hK K
            try simp only [Act.put, List.getElem_toArray, List.getElem_cons_zero, List.getElem_cons_succ, List.setIfInBounds_toArray, List.set_cons_zero, List.set_cons_succ]
            refine wpAnyH_ready (rs := [8]) (by kernel_rfl) (by simp) ?_
            refine AllReadyH.cons rfl (fun K hK => ?_) ?_
            · rw [if_pos (by rfl)]
              refine wp_allocA rfl ?_
              intro w57 g5 hn hge hb
              have HB47 := Lib.hid (HB46.out.trans (hb.mono HB46.out.size))
              have H647 := Lib.hid (H646.out.below hb H646.out.lt)
              have HG5 := Lib.hid (Nat.le_trans HB46.out.size hge)
              have HNE : Hid (g5 ≠ g6) := by show _ ≠ _; have := H646.out.lt; omega
              have H547 := Lib.hid hn
              clear hn hge
              clear hb
              refine hK.out _ _ trivial (fun hHeld => ?_)
              clear hK K
              try simp only [Act.put, List.getElem_toArray, List.getElem_cons_zero, List.getElem_cons_succ, List.setIfInBounds_toArray, List.set_cons_zero, List.set_cons_succ]
              refine wpAnyH_ready (rs := [10]) (by kernel_rfl) (by simp) (AllReadyH.cons rfl (fun K hK => ?_) AllReadyH.nil)
              rw [if_pos (by rfl)]
              refine wp_storeA 26 (.tmp 5) (.tmp 38) rfl _ (bvA X) rfl rfl 26 _ H547.out (by rw [bvA_size, HX32.out]; exact sha_size) (by rw [bvA_size, bvA_size, HX32.out, List.length_replicate]) (bvA_one _) ?_
              intro w58 hn hg
              have HB48 := Lib.hid (grown_below HB47.out hg (HG5.out) HB47.out.size)
              have H548 : Hid (BB w58 _ 26 X) := hn
              have H648 := Lib.hid (H647.out.grownBy hg (fun h => HNE.out (by injection h)))
              refine hK.out _ _ trivial (fun hHeld => ?_)
              clear hK K hn hg
              try simp only [Act.put, List.getElem_toArray, List.getElem_cons_zero, List.getElem_cons_succ, List.setIfInBounds_toArray, List.set_cons_zero, List.set_cons_succ]
              refine wpAnyH_ready (rs := [11]) (by kernel_rfl) (by simp) (AllReadyH.cons rfl (fun K hK => ?_) AllReadyH.nil)
              rw [if_pos (by rfl)]
              refine wp_storeA 26 (.tmp 6) (.tmp 42) rfl _ (bvA Y) rfl rfl 26 _ H648.out (by rw [bvA_size, HY32.out]; exact sha_size) (by rw [bvA_size, bvA_size, HY32.out, List.length_replicate]) (bvA_one _) ?_
              intro w59 hn hg
              have HB49 := Lib.hid (grown_below HB48.out hg (HG6.out) HB48.out.size)
              have H649 : Hid (BB w59 _ 26 Y) := hn
              have H549 := Lib.hid (H548.out.grownBy hg (fun h => HNE.out (by injection h with h; exact h.symm)))
              refine hK.out _ _ trivial (fun hHeld => ?_)
              clear hK K hn hg
              try simp only [Act.put, List.getElem_toArray, List.getElem_cons_zero, List.getElem_cons_succ, List.setIfInBounds_toArray, List.set_cons_zero, List.set_cons_succ]
              refine wpAnyH_done (by kernel_rfl) ?_ _
              exact ⟨rfl, g5, g6, _, _, _, rfl, H549.out, H649.out, HG5.out, HG6.out, HB49.out⟩
            exact AllReadyH.nil
          refine AllReadyH.cons rfl (fun K hK => ?_) ?_
          · rw [if_pos (by rfl)]
            refine wp_allocA rfl ?_
            intro w60 g5 hn hge hb
            have HB50 := Lib.hid (HB45.out.trans (hb.mono HB45.out.size))
            have H650 := Lib.hid (H645.out.below hb H645.out.lt)
            have HG5 := Lib.hid (Nat.le_trans HB45.out.size hge)
            have HNE : Hid (g5 ≠ g6) := by show _ ≠ _; have := H645.out.lt; omega
            have H550 := Lib.hid hn
            clear hn hge
            clear hb
            refine hK.out _ _ trivial (fun hHeld => ?_)
            clear hK K
            try simp only [Act.put, List.getElem_toArray, List.getElem_cons_zero, List.getElem_cons_succ, List.setIfInBounds_toArray, List.set_cons_zero, List.set_cons_succ]
            refine wpAnyH_ready (rs := [7]) (by kernel_rfl) (by simp) ?_
            refine AllReadyH.cons rfl (fun K hK => ?_) ?_
            · go_simp
              refine (c2.out _ HB50.out).mono ?_
              rintro e w61 ⟨rfl, hb⟩
              try go_wp2_with fail
              have HB51 := Lib.hid (HB50.out.trans (hb.mono HB50.out.size))
              have H651 := Lib.hid (H650.out.below hb H650.out.lt)
              have H551 := Lib.hid (H550.out.below hb H550.out.lt)
              clear hb
              refine hK.out _ _ trivial (fun hHeld => ?_)
              clear hK K
              try simp only [Act.put, List.getElem_toArray, List.getElem_cons_zero, List.getElem_cons_succ, List.setIfInBounds_toArray, List.set_cons_zero, List.set_cons_succ]
              refine wpAnyH_ready (rs := [10]) (by kernel_rfl) (by simp) (AllReadyH.cons rfl (fun K hK => ?_) AllReadyH.nil)
              rw [if_pos (by rfl)]
              refine wp_storeA 26 (.tmp 5) (.tmp 38) rfl _ (bvA X) rfl rfl 26 _ H551.out (by rw [bvA_size, HX32.out]; exact sha_size) (by rw [bvA_size, bvA_size, HX32.out, List.length_replicate]) (bvA_one _) ?_
              intro w62 hn hg
              have HB52 := Lib.hid (grown_below HB51.out hg (HG5.out) HB51.out.size)
              have H552 : Hid (BB w62 _ 26 X) := hn
              have H652 := Lib.hid (H651.out.grownBy hg (fun h => HNE.out (by injection h)))
              refine hK.out _ _ trivial (fun hHeld => ?_)
              clear hK K hn hg
              try simp only [Act.put, List.getElem_toArray, List.getElem_cons_zero, List.getElem_cons_succ, List.setIfInBounds_toArray, List.set_cons_zero, List.set_cons_succ]
              refine wpAnyH_ready (rs := [11]) (by kernel_rfl) (by simp) (AllReadyH.cons rfl (fun K hK => ?_) AllReadyH.nil)
              rw [if_pos (by rfl)]
              refine wp_storeA 26 (.tmp 6) (.tmp 42) rfl _ (bvA Y) rfl rfl 26 _ H652.out (by rw [bvA_size, HY32.out]; exact sha_size) (by rw [bvA_size, bvA_size, HY32.out, List.length_replicate]) (bvA_one _) ?_
              intro w63 hn hg
              have HB53 := Lib.hid (grown_below HB52.out hg (HG6.out) HB52.out.size)
              have H653 : Hid (BB w63 _ 26 Y) := hn
              have H553 := Lib.hid (H552.out.grownBy hg (fun h => HNE.out (by injection h with h; exact h.symm)))
              refine hK.out _ _ trivial (fun hHeld => ?_)
              clear hK K hn hg
              try simp only [Act.put, List.getElem_toArray, List.getElem_cons_zero, List.getElem_cons_succ, List.setIfInBounds_toArray, List.set_cons_zero, List.set_cons_succ]
              refine wpAnyH_done (by kernel_rfl) ?_ _
              exact ⟨rfl, g5, g6, _, _, _, rfl, H553.out, H653.out, HG5.out, HG6.out, HB53.out⟩
            exact AllReadyH.nil
          exact AllReadyH.nil
        refine AllReadyH.cons rfl (fun K hK => ?_) ?_
        · rw [if_pos (by rfl)]
          refine wp_allocA rfl ?_
          intro w64 g5 hn hge hb
          have HB54 := Lib.hid (HB44.out.trans (hb.mono HB44.out.size))
          have H654 := Lib.hid (H644.out.below hb H644.out.lt)
          have HG5 := Lib.hid (Nat.le_trans HB44.out.size hge)
          have HNE : Hid (g5 ≠ g6) := by show _ ≠ _; have := H644.out.lt; omega
          have H554 := Lib.hid hn
          clear hn hge
          clear hb
          refine hK.out _ _ trivial (fun hHeld => ?_)
          clear hK K
          try simp only [Act.put, List.getElem_toArray, List.getElem_cons_zero, List.getElem_cons_succ, List.setIfInBounds_toArray, List.set_cons_zero, List.set_cons_succ]
          refine wpAnyH_ready (rs := [3]) (by kernel_rfl) (by simp) ?_
          refine AllReadyH.cons rfl (fun K hK => ?_) ?_
          · go_simp
            refine (c1.out _ HB54.out).mono ?_
            rintro e w65 ⟨rfl, hb⟩
            try go_wp2_with fail
            have HB55 := Lib.hid (HB54.out.trans (hb.mono HB54.out.size))
            have H655 := Lib.hid (H654.out.below hb H654.out.lt)
            have H555 := Lib.hid (H554.out.below hb H554.out.lt)
            clear hb
            refine hK.out _ _ trivial (fun hHeld => ?_)
            clear hK K
            try simp only [Act.put, List.getElem_toArray, List.getElem_cons_zero, List.getElem_cons_succ, List.setIfInBounds_toArray, List.set_cons_zero, List.set_cons_succ]
            refine wpAnyH_ready (rs := [7]) (by kernel_rfl) (by simp) ?_
            refine AllReadyH.cons rfl (fun K hK => ?_) ?_
            · go_simp
              refine (c2.out _ HB55.out).mono ?_
              rintro e w66 ⟨rfl, hb⟩
              try go_wp2_with fail
              have HB56 := Lib.hid (HB55.out.trans (hb.mono HB55.out.size))
              have H656 := Lib.hid (H655.out.below hb H655.out.lt)
              have H556 := Lib.hid (H555.out.below hb H555.out.lt)
              clear hb
              refine hK.out _ _ trivial (fun hHeld => ?_)
              clear hK K
              try simp only [Act.put, List.getElem_toArray, List.getElem_cons_zero, List.getElem_cons_succ, List.setIfInBounds_toArray, List.set_cons_zero, List.set_cons_succ]
              refine wpAnyH_ready (rs := [10]) (by kernel_rfl) (by simp) (AllReadyH.cons rfl (fun K hK => ?_) AllReadyH.nil)
              rw [if_pos (by rfl)]
              refine wp_storeA 26 (.tmp 5) (.tmp 38) rfl _ (bvA X) rfl rfl 26 _ H556.out (by rw [bvA_size, HX32.out]; exact sha_size) (by rw [bvA_size, bvA_size, HX32.out, List.length_replicate]) (bvA_one _) ?_
              intro w67 hn hg
              have HB57 := Lib.hid (grown_below HB56.out hg (HG5.out) HB56.out.size)
              have H557 : Hid (BB w67 _ 26 X) := hn
              have H657 := Lib.hid (H656.out.grownBy hg (fun h => HNE.out (by injection h)))
              refine hK.out _ _ trivial (fun hHeld => ?_)
              clear hK K hn hg
              try simp only [Act.put, List.getElem_toArray, List.getElem_cons_zero, List.getElem_cons_succ, List.setIfInBounds_toArray, List.set_cons_zero, List.set_cons_succ]
              refine wpAnyH_ready (rs := [11]) (by kernel_rfl) (by simp) (AllReadyH.cons rfl (fun K hK => ?_) AllReadyH.nil)
              rw [if_pos (by rfl)]
              refine wp_storeA 26 (.tmp 6) (.tmp 42) rfl _ (bvA Y) rfl rfl 26 _ H657.out (by rw [bvA_size, HY32.out]; exact sha_size) (by rw [bvA_size, bvA_size, HY32.out, List.length_replicate]) (bvA_one _) ?_
              intro w68 hn hg
              have HB58 := Lib.hid (grown_below HB57.out hg (HG6.out) HB57.out.size)
              have H658 : Hid (BB w68 _ 26 Y) := hn
              have H558 := Lib.hid (H557.out.grownBy hg (fun h => HNE.out (by injection h with h; exact h.symm)))
              refine hK.out _ _ trivial (fun hHeld => ?_)
              clear hK K hn hg
              try simp only [Act.put, List.getElem_toArray, List.getElem_cons_zero, List.getElem_cons_succ, List.setIfInBounds_toArray, List.set_cons_zero, List.set_cons_succ]
              refine wpAnyH_done (by kernel_rfl) ?_ _
              exact ⟨rfl, g5, g6, _, _, _, rfl, H558.out, H658.out, HG5.out, HG6.out, HB58.out⟩
            exact AllReadyH.nil
          exact AllReadyH.nil
        exact AllReadyH.nil
      exact AllReadyH.nil
end Go.Proofs.YtndbhmipehpebaaDoor
