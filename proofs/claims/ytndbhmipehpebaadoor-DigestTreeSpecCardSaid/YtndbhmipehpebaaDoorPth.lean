/-
  Paths in trees of hashes: pathOf and Path of package digest.
-/
import Derived.Test.YtndbhmipehpebaaDoorDig
namespace Go.Proofs.YtndbhmipehpebaaDoor
open Go.RowKit

def pathS (l : List (List UInt8)) (at_ : Nat) : List (List UInt8) :=
  if h : l.length < 2 then []
  else if at_ < half l.length then pathS (l.take (half l.length)) at_ ++ [treeS (l.drop (half l.length))]
  else pathS (l.drop (half l.length)) (at_ - half l.length) ++ [treeS (l.take (half l.length))]
termination_by l.length
decreasing_by
  · have := half_bd l.length (by omega); rw [List.length_take]; omega
  · have := half_bd l.length (by omega); rw [List.length_drop]; omega
theorem pathS_one (l : List (List UInt8)) (at_ : Nat) (h : l.length < 2) : pathS l at_ = [] := by rw [pathS, dif_pos h]
theorem pathS_lo (l : List (List UInt8)) (at_ : Nat) (h : 2 ≤ l.length) (ha : at_ < half l.length) : pathS l at_ = pathS (l.take (half l.length)) at_ ++ [treeS (l.drop (half l.length))] := by
  rw [pathS, dif_neg (by omega), if_pos ha]
theorem pathS_hi (l : List (List UInt8)) (at_ : Nat) (h : 2 ≤ l.length) (ha : half l.length ≤ at_) : pathS l at_ = pathS (l.drop (half l.length)) (at_ - half l.length) ++ [treeS (l.take (half l.length))] := by
  rw [pathS, dif_neg (by omega), if_neg (by omega)]
theorem pathS_len : ∀ (N : Nat) (l : List (List UInt8)) (at_ : Nat), l.length < N → (pathS l at_).length ≤ l.length
  | 0, l, at_, h => by omega
  | N + 1, l, at_, h => by
    by_cases h2 : l.length < 2
    · rw [pathS_one l at_ h2]; simp
    · have hb := half_bd l.length (by omega)
      by_cases ha : at_ < half l.length
      · have := pathS_len N (l.take (half l.length)) at_ (by rw [List.length_take]; omega)
        rw [pathS_lo l at_ (by omega) ha, List.length_append, List.length_singleton]
        rw [List.length_take] at this; omega
      · have := pathS_len N (l.drop (half l.length)) (at_ - half l.length) (by rw [List.length_drop]; omega)
        rw [pathS_hi l at_ (by omega) (by omega), List.length_append, List.length_singleton]
        rw [List.length_drop] at this; omega
theorem pathS_32 : ∀ (N : Nat) (l : List (List UInt8)) (at_ : Nat), l.length < N → ∀ d ∈ pathS l at_, d.length = 32
  | 0, l, at_, h => by omega
  | N + 1, l, at_, h => by
    intro d hd
    by_cases h2 : l.length < 2
    · rw [pathS_one l at_ h2] at hd; cases hd
    · have hb := half_bd l.length (by omega)
      by_cases ha : at_ < half l.length
      · rw [pathS_lo l at_ (by omega) ha] at hd
        rcases List.mem_append.1 hd with hd | hd
        · exact pathS_32 N _ at_ (by rw [List.length_take]; omega) d hd
        · rw [List.mem_singleton.1 hd]; exact treeS_len _
      · rw [pathS_hi l at_ (by omega) (by omega)] at hd
        rcases List.mem_append.1 hd with hd | hd
        · exact pathS_32 N _ _ (by rw [List.length_drop]; omega) d hd
        · rw [List.mem_singleton.1 hd]; exact treeS_len _

theorem split_same (n : Nat) (w : World) (h : 2 ≤ n) (h2 : n ≤ maxLen) :
    Calls Tryd.prog 34 #[.int .i64 n] w fun e w' => e = .returned (.int .i64 (half n)) ∧ w = w' :=
  (split_any n w h h2).mono fun _ _ h => ⟨h.1, h.2.symm⟩
/-- A path that has been made. -/
def MadeD (w : World) (l : List (List UInt8)) (e : Ending) (w' : World) : Prop := ∃ v, e = .returned v ∧ OwnD w.heap.size w' v l ∧ Below w.heap.size w w'

set_option maxRecDepth 100000 in
set_option maxHeartbeats 1600000 in
theorem pathOf_any : ∀ (N : Nat) (a : Option Addr) (cap : Nat) (l : List (List UInt8)) (at_ : Nat) (w : World), l.length < N → Tab w → RdD w.heap.size w a l → l.length ≤ cap → cap ≤ maxLen → at_ < l.length → l.length ≤ 1099511627776 →
    Calls Tryd.prog 38 #[.slice a l.length cap, .int .i64 at_] w (MadeD w (pathS l at_)) := by
  intro N
  induction N with
  | zero => intro a cap l at_ w hN; omega
  | succ N ih =>
    intro a cap l at_ w hN hT hl hcap hc2 hat hmax
    have HT := Lib.hid hT
    have HL := Lib.hid hl
    have HC2 := Lib.hid hc2
    clear hT hl
    unfold maxLen at hc2
    by_cases h1 : l.length = 1
    · rw [pathS_one l at_ (by omega)]
      have h1' : ((l.length : Int) == 1) = true := by rw [beq_iff_eq]; omega
      clear h1
      go_enter Tryd.func38, Tryd.ntmps38
      go_wp2_with fail
      go_ret
      exact ⟨_, rfl, OwnD.nil _ _, Below.refl _ _⟩
    · have h2 : 2 ≤ l.length := by omega
      have hb := half_bd l.length h2
      obtain ⟨hb1, hb2, hb3⟩ := hb
      have hne1 : ((l.length : Int) == 1) = false := by rw [beq_eq_false_iff_ne]; omega
      have hs1 := sliceD_from a l.length cap (half l.length) (by omega)
      have hs2 := sliceD_to a l.length cap (half l.length) (by omega)
      by_cases ha : at_ < half l.length
      · rw [pathS_lo l at_ h2 ha]
        obtain ⟨Y, hY⟩ : ∃ Y, Y = treeS (l.drop (half l.length)) := ⟨_, rfl⟩
        obtain ⟨X, hX⟩ : ∃ X, X = pathS (l.take (half l.length)) at_ := ⟨_, rfl⟩
        rw [← hX, ← hY]
        have HYL : Hid (Y.length = 32) := by show _ = _; rw [hY]; exact treeS_len _
        have HXL : Hid ((X.length + 1) * 32 ≤ 140737488355328) := by
          have := pathS_len _ (l.take (half l.length)) at_ (Nat.lt_succ_self _)
          rw [← hX, List.length_take] at this
          show _ ≤ _; omega
        have c1 : Hid (∀ W, Below w.heap.size w W → Calls Tryd.prog 38 #[.slice a (half l.length) cap, .int .i64 at_] W (MadeD W X)) := by
          intro W hW
          have h := ih a cap (l.take (half l.length)) at_ W (by rw [List.length_take]; omega) (HT.out.below hW HT.out.lt) (((HL.out.take _).below hW).mono hW.size) (by rw [List.length_take]; omega) HC2.out (by rw [List.length_take]; omega) (by rw [List.length_take]; omega)
          rw [List.length_take, Nat.min_eq_left (by omega), ← hX] at h
          exact h
        have c2 : Hid (∀ W, Below w.heap.size w W → Calls Tryd.prog 17 #[tailD a l.length cap (half l.length)] W fun e w2 => e = .returned (.agg (bvA Y)) ∧ Below W.heap.size W w2) := by
          intro W hW
          have h := tree_any _ (if cap = half l.length then a else a.map (·.add (half l.length * 32))) (cap - half l.length) (l.drop (half l.length)) W (Nat.lt_succ_self _) (HT.out.below hW HT.out.lt) (((HL.out.drop hcap _).below hW).mono hW.size) (by rw [List.length_drop]; omega) (by unfold maxLen; omega)
          rw [List.length_drop, ← hY] at h
          exact h
        clear hX hY hb2 hb3 hcap hat h1
        go_enter Tryd.func38, Tryd.ntmps38
        go_wp2_with fail
        refine (split_same l.length _ h2 (by unfold maxLen; omega)).mono ?_
        rintro e w1 ⟨rfl, rfl⟩
        go_wp2_with fail
        have hys : (bvA Y).size = 32 := by rw [bvA_size, HYL.out]
        have hfold := fold_dig Y HYL.out
        go_region_held3 (fun w' => True ∧ True)
          (exact ⟨trivial, trivial⟩)
          (first
            | (go_at_call 38
               with_reducible refine (c1.out _ ?_).mono ?_
               · exact (Below.refl _ _).drew
               rintro e w2 ⟨v2, rfl, ho2, hb2⟩
               have HO2 := Lib.hid ho2
               have HB2 := Lib.hid (((Below.refl w.heap.size w).drew).trans hb2)
               clear ho2 hb2)
            | (go_at_call 17
               with_reducible refine (c2.out _ ?_).mono ?_
               · exact HB2.out
               rintro e w3 ⟨rfl, hb3⟩
               have HO3 := Lib.hid (HO2.out.below hb3)
               have HB3 := Lib.hid (HB2.out.trans (hb3.mono HB2.out.size))
               clear hb3)
            | (refine step_build1 rfl (.tmp 23) rfl Y HYL.out (by rfl) ?_)
            | ((refine step_appD rfl (.tmp 19) (.tmp 24) rfl w.heap.size v2 X [Y] (some ⟨w3.heap.size, 0, none⟩) 1 (by rfl) (HO3.out.alloc _) (by rfl) (RdD.one (BB.new w3 _ Y) HYL.out) (fun h => by cases h) HXL.out (by simp; have := HB3.out.size; omega) ?_; intro v4 w4 ho4 hg4)))
        have hB4 := (HB3.out.alloc HB3.out.size _).trans (hg4.below HO2.out.base (le_alloc HB3.out.size _))
        go_wp2_with fail
        go_ret
        exact ⟨_, rfl, ho4, hB4⟩
      · rw [pathS_hi l at_ h2 (by omega)]
        obtain ⟨Y, hY⟩ : ∃ Y, Y = treeS (l.take (half l.length)) := ⟨_, rfl⟩
        obtain ⟨X, hX⟩ : ∃ X, X = pathS (l.drop (half l.length)) (at_ - half l.length) := ⟨_, rfl⟩
        rw [← hX, ← hY]
        have HYL : Hid (Y.length = 32) := by show _ = _; rw [hY]; exact treeS_len _
        have HXL : Hid ((X.length + 1) * 32 ≤ 140737488355328) := by
          have := pathS_len _ (l.drop (half l.length)) (at_ - half l.length) (Nat.lt_succ_self _)
          rw [← hX, List.length_drop] at this
          show _ ≤ _; omega
        have c1 : Hid (∀ W, Below w.heap.size w W → Calls Tryd.prog 38 #[tailD a l.length cap (half l.length), .int .i64 ((at_ : Int) - (half l.length : Nat))] W (MadeD W X)) := by
          intro W hW
          have h := ih (if cap = half l.length then a else a.map (·.add (half l.length * 32))) (cap - half l.length) (l.drop (half l.length)) (at_ - half l.length) W (by rw [List.length_drop]; omega) (HT.out.below hW HT.out.lt) (((HL.out.drop hcap _).below hW).mono hW.size) (by rw [List.length_drop]; omega) (by unfold maxLen; omega) (by rw [List.length_drop]; omega) (by rw [List.length_drop]; omega)
          rw [List.length_drop, ← hX, Int.ofNat_sub (by omega)] at h
          exact h
        have c2 : Hid (∀ W, Below w.heap.size w W → Calls Tryd.prog 17 #[.slice a (half l.length) cap] W fun e w2 => e = .returned (.agg (bvA Y)) ∧ Below W.heap.size W w2) := by
          intro W hW
          have h := tree_any _ a cap (l.take (half l.length)) W (Nat.lt_succ_self _) (HT.out.below hW HT.out.lt) (((HL.out.take _).below hW).mono hW.size) (by rw [List.length_take]; omega) HC2.out
          rw [List.length_take, Nat.min_eq_left (by omega), ← hY] at h
          exact h
        have hge : (half l.length : Int) ≤ (at_ : Int) := by omega
        have hwr : IntKind.i64.wrap ((at_ : Int) - (half l.length : Nat)) = (at_ : Int) - (half l.length : Nat) := IntWalk.i64_in _ (by omega)
        clear hX hY hb2 hb3 hcap hat h1
        go_enter Tryd.func38, Tryd.ntmps38
        go_wp2_with fail
        refine (split_same l.length _ h2 (by unfold maxLen; omega)).mono ?_
        rintro e w1 ⟨rfl, rfl⟩
        go_wp2_with fail
        have hys : (bvA Y).size = 32 := by rw [bvA_size, HYL.out]
        have hfold := fold_dig Y HYL.out
        go_region_held3 (fun w' => True ∧ True)
          (exact ⟨trivial, trivial⟩)
          (first
            | (go_at_call 38
               with_reducible refine (c1.out _ ?_).mono ?_
               · exact (Below.refl _ _).drew
               rintro e w2 ⟨v2, rfl, ho2, hb2⟩
               have HO2 := Lib.hid ho2
               have HB2 := Lib.hid (((Below.refl w.heap.size w).drew).trans hb2)
               clear ho2 hb2)
            | (go_at_call 17
               with_reducible refine (c2.out _ ?_).mono ?_
               · exact HB2.out
               rintro e w3 ⟨rfl, hb3⟩
               have HO3 := Lib.hid (HO2.out.below hb3)
               have HB3 := Lib.hid (HB2.out.trans (hb3.mono HB2.out.size))
               clear hb3)
            | (refine step_build1 rfl (.tmp 36) rfl Y HYL.out (by rfl) ?_)
            | ((refine step_appD rfl (.tmp 32) (.tmp 37) rfl w.heap.size v2 X [Y] (some ⟨w3.heap.size, 0, none⟩) 1 (by rfl) (HO3.out.alloc _) (by rfl) (RdD.one (BB.new w3 _ Y) HYL.out) (fun h => by cases h) HXL.out (by simp; have := HB3.out.size; omega) ?_; intro v4 w4 ho4 hg4)))
        have hB4 := (HB3.out.alloc HB3.out.size _).trans (hg4.below HO2.out.base (le_alloc HB3.out.size _))
        go_wp2_with fail
        go_ret
        exact ⟨_, rfl, ho4, hB4⟩
end Go.Proofs.YtndbhmipehpebaaDoor
