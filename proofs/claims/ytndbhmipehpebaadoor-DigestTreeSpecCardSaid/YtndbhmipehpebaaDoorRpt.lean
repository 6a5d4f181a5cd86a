/-
  The reference's path, Path, length and Same.
-/
import Derived.Test.YtndbhmipehpebaaDoorRtr
import Derived.Test.YtndbhmipehpebaaDoorEqd
namespace Go.Proofs.YtndbhmipehpebaaDoor
open Go.RowKit
set_option linter.unusedVariables false
set_option linter.unusedSimpArgs false

set_option maxRecDepth 100000 in
set_option maxHeartbeats 1600000 in
theorem refPathIn : ∀ (N : Nat) (a : Option Addr) (cap : Nat) (l : List (List UInt8)) (at_ : Nat) (w : World), l.length < N → RdD w.heap.size w a l → l.length ≤ cap → cap ≤ maxLen → at_ < l.length → l.length ≤ 1099511627776 →
    Calls Tryd.prog 39 #[.slice a l.length cap, .int .i64 at_] w (MadeD w (pathS l at_)) := by
  intro N
  induction N with
  | zero => intro a cap l at_ w hN; omega
  | succ N ih =>
    intro a cap l at_ w hN hl hcap hc2 hat hmax
    have HL := Lib.hid hl
    have HC2 := Lib.hid hc2
    clear hl
    unfold maxLen at hc2
    have hmax' := hmax
    by_cases h1 : l.length = 1
    · rw [pathS_one l at_ (by omega)]
      have h1' : ((l.length : Int) == 1) = true := by rw [beq_iff_eq]; omega
      clear h1
      go_enter Tryd.func39, Tryd.ntmps39
      go_wp2_with fail
      go_ret
      exact ⟨_, rfl, OwnD.empty (Nat.le_refl _), (Below.refl _ _).alloc (Nat.le_refl _) _⟩
    · have h2 : 2 ≤ l.length := by omega
      have hb := half_bd l.length h2
      obtain ⟨hb1, hb2, hb3⟩ := hb
      have hne1 : ((l.length : Int) == 1) = false := by rw [beq_eq_false_iff_ne]; omega
      have hs1 := sliceD_from a l.length cap (half l.length) (by omega)
      have hs2 := sliceD_to a l.length cap (half l.length) (by omega)
      by_cases ha : at_ < half l.length
      · rw [pathS_lo l at_ h2 ha]
        obtain ⟨Y, hY⟩ : ∃ Y, Y = treeS (l.drop (half l.length)) := ⟨_, rfl⟩
        obtain ⟨X, hX⟩ : ∃ X, X = pathS (l.take (half l.length)) at_ := ⟨_, rfl⟩
        rw [← hX, ← hY]
        have HYL : Hid (Y.length = 32) := by show _ = _; rw [hY]; exact treeS_len _
        have HXL : Hid ((X.length + 1) * 32 ≤ 140737488355328) := by
          have := pathS_len _ (l.take (half l.length)) at_ (Nat.lt_succ_self _)
          rw [← hX, List.length_take] at this
          show _ ≤ _; omega
        have c1 : Hid (∀ W, Below w.heap.size w W → Calls Tryd.prog 39 #[.slice a (half l.length) cap, .int .i64 at_] W (MadeD W X)) := by
          intro W hW
          have h := ih a cap (l.take (half l.length)) at_ W (by rw [List.length_take]; omega) (((HL.out.take _).below hW).mono hW.size) (by rw [List.length_take]; omega) HC2.out (by rw [List.length_take]; omega) (by rw [List.length_take]; omega)
          rw [List.length_take, Nat.min_eq_left (by omega), ← hX] at h
          exact h
        have c2 : Hid (∀ W, Below w.heap.size w W → Calls Tryd.prog 18 #[tailD a l.length cap (half l.length)] W fun e w2 => e = .returned (.agg (bvA Y)) ∧ Below W.heap.size W w2) := by
          intro W hW
          have h := refTree _ (if cap = half l.length then a else a.map (·.add (half l.length * 32))) (cap - half l.length) (l.drop (half l.length)) W (Nat.lt_succ_self _) (((HL.out.drop hcap _).below hW).mono hW.size) (by rw [List.length_drop]; omega) (by unfold maxLen; omega) (by rw [List.length_drop]; omega)
          rw [List.length_drop, ← hY] at h
          exact h
        clear hX hY hb2 hb3 hcap hat h1
        go_enter Tryd.func39, Tryd.ntmps39
        go_wp2_with fail
        refine (refHalf l.length _ h2 hmax').mono ?_
        rintro e w1 ⟨rfl, rfl⟩
        go_wp2_with fail
        have hys : (bvA Y).size = 32 := by rw [bvA_size, HYL.out]
        have hfold := fold_dig Y HYL.out
        go_region_held3 (fun w' => True ∧ True)
          (exact ⟨trivial, trivial⟩)
          (first
            | (go_at_call 39
               with_reducible refine (c1.out _ ?_).mono ?_
               · exact (Below.refl _ _).drew
               rintro e w2 ⟨v2, rfl, ho2, hb2⟩
               have HO2 := Lib.hid ho2
               have HB2 := Lib.hid (((Below.refl w.heap.size w).drew).trans hb2)
               clear ho2 hb2)
            | (go_at_call 18
               with_reducible refine (c2.out _ ?_).mono ?_
               · exact HB2.out
               rintro e w3 ⟨rfl, hb3⟩
               have HO3 := Lib.hid (HO2.out.below hb3)
               have HB3 := Lib.hid (HB2.out.trans (hb3.mono HB2.out.size))
               clear hb3)
            | (refine step_build1 rfl (.tmp 24) rfl Y HYL.out (by rfl) ?_)
            | ((refine step_appD rfl (.tmp 20) (.tmp 25) rfl w.heap.size v2 X [Y] (some ⟨w3.heap.size, 0, none⟩) 1 (by rfl) (HO3.out.alloc _) (by rfl) (RdD.one (BB.new w3 _ Y) HYL.out) (fun h => by cases h) HXL.out (by simp; have := HB3.out.size; omega) ?_; intro v4 w4 ho4 hg4)))
        have hB4 := (HB3.out.alloc HB3.out.size _).trans (hg4.below HO2.out.base (le_alloc HB3.out.size _))
        go_wp2_with fail
        go_ret
        exact ⟨_, rfl, ho4, hB4⟩
      · rw [pathS_hi l at_ h2 (by omega)]
        obtain ⟨Y, hY⟩ : ∃ Y, Y = treeS (l.take (half l.length)) := ⟨_, rfl⟩
        obtain ⟨X, hX⟩ : ∃ X, X = pathS (l.drop (half l.length)) (at_ - half l.length) := ⟨_, rfl⟩
        rw [← hX, ← hY]
        have HYL : Hid (Y.length = 32) := by show _ = _; rw [hY]; exact treeS_len _
        have HXL : Hid ((X.length + 1) * 32 ≤ 140737488355328) := by
          have := pathS_len _ (l.drop (half l.length)) (at_ - half l.length) (Nat.lt_succ_self _)
          rw [← hX, List.length_drop] at this
          show _ ≤ _; omega
        have c1 : Hid (∀ W, Below w.heap.size w W → Calls Tryd.prog 39 #[tailD a l.length cap (half l.length), .int .i64 ((at_ : Int) - (half l.length : Nat))] W (MadeD W X)) := by
          intro W hW
          have h := ih (if cap = half l.length then a else a.map (·.add (half l.length * 32))) (cap - half l.length) (l.drop (half l.length)) (at_ - half l.length) W (by rw [List.length_drop]; omega) (((HL.out.drop hcap _).below hW).mono hW.size) (by rw [List.length_drop]; omega) (by unfold maxLen; omega) (by rw [List.length_drop]; omega) (by rw [List.length_drop]; omega)
          rw [List.length_drop, ← hX, Int.ofNat_sub (by omega)] at h
          exact h
        have c2 : Hid (∀ W, Below w.heap.size w W → Calls Tryd.prog 18 #[.slice a (half l.length) cap] W fun e w2 => e = .returned (.agg (bvA Y)) ∧ Below W.heap.size W w2) := by
          intro W hW
          have h := refTree _ a cap (l.take (half l.length)) W (Nat.lt_succ_self _) (((HL.out.take _).below hW).mono hW.size) (by rw [List.length_take]; omega) HC2.out (by rw [List.length_take]; omega)
          rw [List.length_take, Nat.min_eq_left (by omega), ← hY] at h
          exact h
        have hge : (half l.length : Int) ≤ (at_ : Int) := by omega
        have hwr : IntKind.i64.wrap ((at_ : Int) - (half l.length : Nat)) = (at_ : Int) - (half l.length : Nat) := IntWalk.i64_in _ (by omega)
        clear hX hY hb2 hb3 hcap hat h1
        go_enter Tryd.func39, Tryd.ntmps39
        go_wp2_with fail
        refine (refHalf l.length _ h2 hmax').mono ?_
        rintro e w1 ⟨rfl, rfl⟩
        go_wp2_with fail
        have hys : (bvA Y).size = 32 := by rw [bvA_size, HYL.out]
        have hfold := fold_dig Y HYL.out
        go_region_held3 (fun w' => True ∧ True)
          (exact ⟨trivial, trivial⟩)
          (first
            | (go_at_call 39
               with_reducible refine (c1.out _ ?_).mono ?_
               · exact (Below.refl _ _).drew
               rintro e w2 ⟨v2, rfl, ho2, hb2⟩
               have HO2 := Lib.hid ho2
               have HB2 := Lib.hid (((Below.refl w.heap.size w).drew).trans hb2)
               clear ho2 hb2)
            | (go_at_call 18
               with_reducible refine (c2.out _ ?_).mono ?_
               · exact HB2.out
               rintro e w3 ⟨rfl, hb3⟩
               have HO3 := Lib.hid (HO2.out.below hb3)
               have HB3 := Lib.hid (HB2.out.trans (hb3.mono HB2.out.size))
               clear hb3)
            | (refine step_build1 rfl (.tmp 37) rfl Y HYL.out (by rfl) ?_)
            | ((refine step_appD rfl (.tmp 33) (.tmp 38) rfl w.heap.size v2 X [Y] (some ⟨w3.heap.size, 0, none⟩) 1 (by rfl) (HO3.out.alloc _) (by rfl) (RdD.one (BB.new w3 _ Y) HYL.out) (fun h => by cases h) HXL.out (by simp; have := HB3.out.size; omega) ?_; intro v4 w4 ho4 hg4)))
        have hB4 := (HB3.out.alloc HB3.out.size _).trans (hg4.below HO2.out.base (le_alloc HB3.out.size _))
        go_wp2_with fail
        go_ret
        exact ⟨_, rfl, ho4, hB4⟩
theorem refPath_ok (a : Option Addr) (cap : Nat) (l : List (List UInt8)) (at_ : Nat) (w : World) (hl : RdD w.heap.size w a l) (hcap : l.length ≤ cap) (hc2 : cap ≤ maxLen) (hat : at_ < l.length) (hmax : l.length ≤ 1099511627776) :
    Calls Tryd.prog 20 #[.slice a l.length cap, .int .i64 at_] w (OkD w (pathS l at_)) := by
  have HC := Lib.hid (refPathIn _ a cap l at_ w (Nat.lt_succ_self _) hl hcap hc2 hat hmax)
  clear hl
  go_enter Tryd.func20, Tryd.ntmps20
  go_wp2_with fail
  refine HC.out.mono ?_
  rintro e w2 ⟨v2, rfl, ho2, hb2⟩
  go_wp2_with fail
  go_ret2
  exact ⟨v2, rfl, ho2, hb2⟩
theorem refPath_bad (a : Option Addr) (n cap : Nat) (at_ : Int) (w : World) (hn : n ≤ 9223372036854775807) (h : at_ < 0 ∨ (n : Int) ≤ at_) :
    Calls Tryd.prog 20 #[.slice a n cap, .int .i64 at_] w fun e w' => e = .returned (.tuple #[.slice none 0 0, .int .i64 1]) ∧ w = w' := by
  by_cases h0 : at_ < 0
  · clear h
    go_enter Tryd.func20, Tryd.ntmps20
    go_wp2_with fail
    go_ret2
    exact ⟨rfl, rfl⟩
  · have h1 : (n : Int) ≤ at_ := by omega
    clear h
    go_enter Tryd.func20, Tryd.ntmps20
    go_wp2_with fail
    go_ret2
    exact ⟨rfl, rfl⟩


set_option maxRecDepth 100000 in
set_option maxHeartbeats 800000 in
theorem refLength : ∀ (N at_ n : Nat) (w : World), n < N → at_ < n → n ≤ 1099511627776 →
    Calls Tryd.prog 42 #[.int .i64 at_, .int .i64 n] w fun e w' => e = .returned (.int .i64 (lenS at_ n)) ∧ w = w' := by
  intro N
  induction N with
  | zero => intro at_ n w hN; omega
  | succ N ih =>
    intro at_ n w hN ha hn
    by_cases h1 : n = 1
    · rw [lenS_one _ _ (by omega)]
      have h1' : ((n : Int) == 1) = true := by rw [beq_iff_eq]; omega
      clear h1 ih
      go_enter Tryd.func42, Tryd.ntmps42
      go_wp2_with fail
      go_ret
      exact ⟨rfl, rfl⟩
    · have h2 : 2 ≤ n := by omega
      have hb := half_bd n h2
      obtain ⟨hb1, hb2, hb3⟩ := hb
      have hne1 : ((n : Int) == 1) = false := by rw [beq_eq_false_iff_ne]; omega
      have hle := lenS_le _ at_ n (Nat.lt_succ_self _)
      by_cases hlo : at_ < half n
      · have hS := lenS_lo at_ n h2 hlo
        have c1 := Lib.hid (ih at_ (half n) w (by omega) hlo (by omega))
        generalize lenS at_ (half n) = M at *
        have HS := Lib.hid hS
        have hM : M ≤ 1099511627776 := by omega
        clear ih hS hle
        go_enter Tryd.func42, Tryd.ntmps42
        go_wp2_with fail
        refine (refHalf n _ h2 hn).mono ?_
        rintro e w1 ⟨rfl, hw⟩
        subst hw
        go_wp2_with fail
        refine c1.out.mono ?_
        rintro e w1 ⟨rfl, hw⟩
        subst hw
        go_wp2_with fail
        go_ret
        refine ⟨?_, rfl⟩
        rw [HS.out]
        congr 2
        go_num
      · have hS := lenS_hi at_ n h2 (by omega)
        have c1 := ih (at_ - half n) (n - half n) w (by omega) (by omega) (by omega)
        rw [Int.ofNat_sub (by omega), Int.ofNat_sub (by omega)] at c1
        have c1 := Lib.hid c1
        generalize lenS (at_ - half n) (n - half n) = M at *
        have HS := Lib.hid hS
        have hM : M ≤ 1099511627776 := by omega
        have hge : (half n : Int) ≤ (at_ : Int) := by omega
        have hwr1 : IntKind.i64.wrap ((at_ : Int) - (half n : Nat)) = (at_ : Int) - (half n : Nat) := IntWalk.i64_in _ (by omega)
        have hwr2 : IntKind.i64.wrap ((n : Int) - (half n : Nat)) = (n : Int) - (half n : Nat) := IntWalk.i64_in _ (by omega)
        clear ih hS hle
        go_enter Tryd.func42, Tryd.ntmps42
        go_wp2_with fail
        refine (refHalf n _ h2 hn).mono ?_
        rintro e w1 ⟨rfl, hw⟩
        subst hw
        go_wp2_with fail
        refine c1.out.mono ?_
        rintro e w1 ⟨rfl, hw⟩
        subst hw
        go_wp2_with fail
        go_ret
        refine ⟨?_, rfl⟩
        rw [HS.out]
        congr 2
        go_num

set_option maxRecDepth 100000 in
set_option maxHeartbeats 1600000 in
theorem refSame (a a2 : Option Addr) (cap cap2 : Nat) (l : List (List UInt8)) (w : World) (hl : RdD w.heap.size w a l) (hl2 : RdD w.heap.size w a2 l) (hcap : l.length ≤ cap) (hcap2 : l.length ≤ cap2) (hmax : l.length ≤ 1099511627776) :
    Calls Tryd.prog 21 #[.slice a l.length cap, .slice a2 l.length cap2] w fun e w' => e = .returned (.bool true) ∧ Below w.heap.size w w' := by
  have HL := Lib.hid hl
  have HL2 := Lib.hid hl2
  have hqg : Tryd.prog.eqGuardType Tryd.prog.depth 26 = false := by kernel_rfl
  clear hl hl2
  have f0 : ((l.length : Int) != (l.length : Int)) = false := by simp
  go_enter Tryd.func21, Tryd.ntmps21
  go_wp2_with fail
  go_loopw [5] (fun i wr => ∃ k : Nat, k ≤ l.length ∧ i = .int .i64 k ∧ Below w.heap.size w wr) (fun i _ => l.length - (intOf i).toNat)
  case atStart => exact ⟨0, by omega, rfl, Below.refl _ _⟩
  case round =>
    obtain ⟨k, hk, rfl, hb⟩ := hrel
    have HB := Lib.hid hb
    clear hb
    by_cases hlt : k < l.length
    · obtain ⟨b, o, rfl, hbB, hcell⟩ := (HL.out.below HB.out).at_ (by omega)
      obtain ⟨b2, o2, rfl, hbB2, hcell2⟩ := (HL2.out.below HB.out).at_ (by omega)
      obtain ⟨d, hd⟩ : ∃ d, l[k] = d := ⟨_, rfl⟩
      have h1 := hcell k hlt
      have h2 := hcell2 k hlt
      rw [hd] at h1 h2
      have hd32 : d.length = 32 := by rw [← hd]; exact HL.out.len k hlt
      have heq : ∀ W, (Op.equalIn 10000 26 (.agg (bvA d)) (.agg (bvA d))).run Tryd.prog W = .ok true W := equal_same d hd32
      have HI : Hid ((Tryd.prog.info? 26).map (·.size) = some (d.map bv).length) := by show _ = _; rw [List.length_map, hd32]; exact sha_size
      have H1 := Lib.hid h1
      have H2 := Lib.hid h2
      have hat0 : (0 : Int) ≤ (k : Int) := by omega
      have hat1 : (k : Int) < (l.length : Int) := by omega
      clear hcell hcell2 hd h1 h2 hd32
      go_wp2_with fail
      refine wp_region_held_drew (S := fun w' => w'.rangeAt b (o + k * 32) (d.map bv) ∧ w'.rangeAt b2 (o2 + k * 32) (d.map bv)) (by kernel_rfl) ⟨H1.out, H2.out⟩ (fun hHeld => ?_)
      refine wpAnyH_take (i := 0) (v := .slice (some ⟨b, o, none⟩) l.length cap) rfl (by kernel_rfl) (by kernel_rfl) (by kernel_rfl) (fun _ _ _ h => h) (Or.inl ⟨by rfl, fun w _ => by go_simp⟩) hHeld ?_
      simp only [Act.put, List.getElem_toArray, List.getElem_cons_zero, List.getElem_cons_succ, List.setIfInBounds_toArray, List.set_cons_zero, List.set_cons_succ]
      refine wpAnyH_take (i := 1) (v := .int .i64 k) rfl (by kernel_rfl) (by kernel_rfl) (by kernel_rfl) (fun _ _ _ h => h) (Or.inl ⟨by rfl, fun w _ => by go_simp⟩) hHeld ?_
      simp only [Act.put, List.getElem_toArray, List.getElem_cons_zero, List.getElem_cons_succ, List.setIfInBounds_toArray, List.set_cons_zero, List.set_cons_succ]
      refine wpAnyH_take (i := 2) (v := .pointer (some ⟨b, o + k * 32, none⟩)) rfl (by kernel_rfl) (by kernel_rfl) (by kernel_rfl) (fun _ _ _ h => h) (Or.inl ⟨by rfl, fun w _ => by go_simp⟩) hHeld ?_
      simp only [Act.put, List.getElem_toArray, List.getElem_cons_zero, List.getElem_cons_succ, List.setIfInBounds_toArray, List.set_cons_zero, List.set_cons_succ]
      refine wpAnyH_take (i := 3) (v := .agg (bvA d)) rfl (by kernel_rfl) (by kernel_rfl) (by kernel_rfl) (fun _ _ _ h => h) (yieldsIf_load_mid (by rfl) 26 (.tmp 19) rfl b (o + k * 32) rfl (d.map bv) _ (fun _ h => h.1) digest_und rfl HI.out) hHeld ?_
      simp only [Act.put, List.getElem_toArray, List.getElem_cons_zero, List.getElem_cons_succ, List.setIfInBounds_toArray, List.set_cons_zero, List.set_cons_succ]
      refine wpAnyH_take (i := 4) (v := .slice (some ⟨b2, o2, none⟩) l.length cap2) rfl (by kernel_rfl) (by kernel_rfl) (by kernel_rfl) (fun _ _ _ h => h) (Or.inl ⟨by rfl, fun w _ => by go_simp⟩) hHeld ?_
      simp only [Act.put, List.getElem_toArray, List.getElem_cons_zero, List.getElem_cons_succ, List.setIfInBounds_toArray, List.set_cons_zero, List.set_cons_succ]
      refine wpAnyH_take (i := 5) (v := .int .i64 k) rfl (by kernel_rfl) (by kernel_rfl) (by kernel_rfl) (fun _ _ _ h => h) (Or.inl ⟨by rfl, fun w _ => by go_simp⟩) hHeld ?_
      simp only [Act.put, List.getElem_toArray, List.getElem_cons_zero, List.getElem_cons_succ, List.setIfInBounds_toArray, List.set_cons_zero, List.set_cons_succ]
      refine wpAnyH_take (i := 6) (v := .pointer (some ⟨b2, o2 + k * 32, none⟩)) rfl (by kernel_rfl) (by kernel_rfl) (by kernel_rfl) (fun _ _ _ h => h) (Or.inl ⟨by rfl, fun w _ => by go_simp⟩) hHeld ?_
      simp only [Act.put, List.getElem_toArray, List.getElem_cons_zero, List.getElem_cons_succ, List.setIfInBounds_toArray, List.set_cons_zero, List.set_cons_succ]
      refine wpAnyH_take (i := 7) (v := .agg (bvA d)) rfl (by kernel_rfl) (by kernel_rfl) (by kernel_rfl) (fun _ _ _ h => h) (yieldsIf_load_mid (by rfl) 26 (.tmp 23) rfl b2 (o2 + k * 32) rfl (d.map bv) _ (fun _ h => h.2) digest_und rfl HI.out) hHeld ?_
      simp only [Act.put, List.getElem_toArray, List.getElem_cons_zero, List.getElem_cons_succ, List.setIfInBounds_toArray, List.set_cons_zero, List.set_cons_succ]
      refine wpAnyH_take (i := 8) (v := .bool false) rfl (by kernel_rfl) (by kernel_rfl) (by kernel_rfl) (fun _ _ _ h => h) (Or.inl ⟨by rfl, fun w _ => by go_simp⟩) hHeld ?_
      simp only [Act.put, List.getElem_toArray, List.getElem_cons_zero, List.getElem_cons_succ, List.setIfInBounds_toArray, List.set_cons_zero, List.set_cons_succ]
      refine wpAnyH_done (by kernel_rfl) ?_ _
      go_wp2_with fail
      go_roundw
      case rel => exact ⟨k + 1, by omega, by go_num, HB.out.drew⟩
      case measure => simp [intOf]; omega
    · obtain rfl : k = l.length := by omega
      go_wp2_with fail
      go_ret
      exact ⟨rfl, HB.out⟩
end Go.Proofs.YtndbhmipehpebaaDoor
