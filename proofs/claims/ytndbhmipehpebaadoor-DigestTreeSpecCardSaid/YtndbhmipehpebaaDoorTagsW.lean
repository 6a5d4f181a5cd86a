/-
  The walk of chartroomlaw02.DigestTags.
-/
import Derived.Test.YtndbhmipehpebaaDoorSan2
namespace Go.Proofs.YtndbhmipehpebaaDoor
open Go.RowKit

theorem OwnB.empty {B : Nat} {w : World} (hB : B ≤ w.heap.size) : OwnB B (w.alloc (.cells #[] 5)) (.slice (some ⟨w.heap.size, 0, none⟩) 0 0) [] :=
  ⟨rfl, .inr ⟨w.heap.size, 0, #[], rfl, hB, heap_alloc_new w _, Nat.le_refl _, Nat.zero_le _, rfl, rfl⟩⟩

theorem OwnB.rdOf {B : Nat} {w : World} {a : Option Addr} {n cap : Nat} {l : List UInt8} (h : OwnB B w (.slice a n cap) l) : RdB w.heap.size w a l := by
  obtain ⟨a', cap', e, _, hr⟩ := h.form
  injection e with e1 e2 e3
  rw [e1]; exact hr
theorem step_appBn {ops : Array Oper} {o : Oper} {a : Act} {w : World} {K : Act → World → Prop} {Q : Exit → Act → World → Prop} {E : Prop} (hgd : o.guard = none) (s x : Operand)
    (ho : o.op = .call { callee := .builtin .append, args := #[s, x], argTypes := #[22, 22] })
    (B : Nat) (v : Value) (l l' : List UInt8) (n : Nat) (ad : Option Addr) (cap : Nat) (hs : a.eval s = v) (hx : a.eval x = .slice ad n cap) (hn : n = l'.length) (hown : OwnB B w v l) (hr : RdB w.heap.size w ad l') (hnil : ad = none → cap = 0)
    (hlen : l.length + l'.length ≤ 140737488355328) (hB : B ≤ w.heap.size)
    (h : ∀ v' w', OwnB B w' v' (l ++ l') → Grew w v w' v' → K (a.put o.dst v') w') : if Region.wanted o (yielded ops a.tmps) = true then Oper.wp Tryd.prog o a w K Q else E := by
  subst hn
  exact step_appB hgd s x ho B v l l' ad cap hs hown hx hr hnil hlen hB h
theorem BB.grownBy {w w' : World} {g : Nat} {T : TypeId} {l : List UInt8} {r : Option Nat} (h : BB w g T l) (hg : w.grownBy w' r) (hne : r ≠ some g) : BB w' g T l := (hg.block g h.lt (Ne.symm hne)).trans h
theorem empty_base {B g : Nat} (h : B ≤ g) : ∀ k, (Value.slice (some ⟨g, 0, none⟩) 0 0).ownBlock = some k → B ≤ k := fun k hk => by
  simp [Value.ownBlock] at hk; omega

set_option maxRecDepth 100000 in
set_option maxHeartbeats 3200000 in
theorem tags_walk (s : ByteArray) (a : Option Addr) (cap : Nat) (l : List UInt8) (w : World) (hs : s.size ≤ maxLen) (hT : Tab w) (hl : RdB w.heap.size w a l) (hcap : l.length ≤ cap) (hc2 : cap ≤ maxLen) (hnil : a = none → cap = 0) :
    Calls Tryd.prog 5 #[.string s, .slice a l.length cap] w fun e w' => e = .returned (.bool true) ∧ Below w.heap.size w w' := by
  have HT := Lib.hid hT
  have HL := Lib.hid hl
  have HC2 := Lib.hid hc2
  have HN := Lib.hid hnil
  have hlt := HT.out.lt
  clear hT hl hnil
  unfold maxLen at hc2 hs
  by_cases h1 : 600 < s.size
  · have f1 : decide (600 < s.size) = true := decide_eq_true h1
    have f1' : decide (600 < (s.size : Int)) = true := decide_eq_true (by omega)
    go_enter Tryd.func5, Tryd.ntmps5
    go_wp2_with fail
    refine (sane_any w HT.out).mono ?_
    rintro e w1 ⟨rfl, hb1⟩
    go_wp2_with fail
    go_ret
    exact ⟨rfl, hb1⟩
  by_cases h2 : 600 < l.length
  · have f1 : decide (600 < s.size) = false := decide_eq_false h1
    have f1' : decide (600 < (s.size : Int)) = false := decide_eq_false (by omega)
    have f2 : decide (600 < (l.length : Int)) = true := decide_eq_true (by omega)
    go_enter Tryd.func5, Tryd.ntmps5
    go_wp2_with fail
    refine (sane_any w HT.out).mono ?_
    rintro e w1 ⟨rfl, hb1⟩
    go_wp2_with fail
    go_ret
    exact ⟨rfl, hb1⟩
  have f1 : decide (600 < s.size) = false := decide_eq_false h1
  have f1' : decide (600 < (s.size : Int)) = false := decide_eq_false (by omega)
  have f2 : decide (600 < (l.length : Int)) = false := decide_eq_false (by omega)
  have f2' : decide (600 < l.length) = false := decide_eq_false (by omega)
  have hcv := fun W : World => Lib.run_convert_string_bytes (P := Tryd.prog) W 9 22 5 s Tryd.underlying9 Tryd.underlying22 Tryd.underlying5
  go_enter Tryd.func5, Tryd.ntmps5
  go_wp2_with fail
  refine (sane_any w HT.out).mono ?_
  rintro e w1 ⟨rfl, hb1⟩
  have HB1 := Lib.hid hb1
  clear hb1
  go_wp2_with fail
  have hB2 := HB1.out.trans ((below_bytesWorld w1 5 s).mono HB1.out.size)
  change Calls _ _ #[.slice (some ⟨w1.heap.size, 0, none⟩) s.data.toList.length (grownCap w1 s.size 0 5)] _ _
  refine (sum_any (some ⟨w1.heap.size, 0, none⟩) (grownCap w1 s.size 0 5) s.data.toList (Lib.bytesWorld w1 5 s) (HT.out.below hB2 hlt) (rd_bytesWorld w1 5 s (by unfold maxLen; omega)) (grownCap_ge w1 s.size 0 _) (grownCap_le_maxLen w1 s.size 0 _ (by unfold maxLen; omega)) (by show s.size ≤ _; omega)).mono ?_
  rintro e w2 ⟨rfl, hb2⟩
  have HB2 := Lib.hid (hB2.trans (hb2.mono hB2.size))
  clear hB2 hb2 hcv
  go_wp2_with (refine wpList_storeA rfl 26 (.tmp 5) (.tmp 18) rfl w2.heap.size (bvA (sha s.data.toList)) rfl rfl 26 (bvA (List.replicate 32 0)) (heap_alloc_new w2 _) (sha_sz _) (sha_old _) (bvA_one _) ?_)
  intro w3 h3 hg3
  have hB3 : Below w2.heap.size w2 w3 := grown_below ((Below.refl _ _).alloc (Nat.le_refl _) _) hg3 (Nat.le_refl _) (by simp)
  have HD3 := Lib.hid (show BB w3 w2.heap.size 26 (sha s.data.toList) from h3)
  have HB3 := Lib.hid (HB2.out.trans (hB3.mono HB2.out.size))
  have hlt3 := HD3.out.lt
  clear h3 hg3 hB3
  obtain ⟨ST, hST⟩ : ∃ ST, ST = sha s.data.toList := ⟨_, rfl⟩
  obtain ⟨TG, hTG⟩ : ∃ TG, TG = tagS s.data.toList l := ⟨_, rfl⟩
  have hST32 : ST.length = 32 := by rw [hST]; exact sha_len _
  have heq : ∀ W, (Op.equalIn 10000 26 (.agg (bvA TG)) (.agg (bvA TG))).run Tryd.prog W = .ok true W := equal_same TG (by rw [hTG]; exact tagS_len _ _)
  have hqg : Tryd.prog.eqGuardType Tryd.prog.depth 26 = false := by kernel_rfl
  have c1 : Hid (∀ W, Below w.heap.size w W → Calls Tryd.prog 14 #[.string s, .slice a l.length cap] W fun e w2 => e = .returned (.agg (bvA TG)) ∧ Below W.heap.size W w2) := by
    intro W hW
    rw [hTG]
    exact Tagged_any s a cap l W (HT.out.below hW hlt) ((HL.out.below hW).mono hW.size) hcap HC2.out (by omega) (by omega)
  obtain ⟨M, hM⟩ : ∃ M, ST ++ l = M := ⟨_, rfl⟩
  have HMM := Lib.hid hM
  have c2 : Hid (∀ W a5 cap5, Below w.heap.size w W → RdB W.heap.size W a5 M → M.length ≤ cap5 → cap5 ≤ maxLen → Calls Tryd.prog 12 #[.slice a5 M.length cap5] W fun e w2 => e = .returned (.agg (bvA TG)) ∧ Below W.heap.size W w2) := by
    intro W a5 cap5 hW h5 h6 h7
    have h := sum_any a5 cap5 M W (HT.out.below hW hlt) h5 h6 h7 (by rw [← hM, List.length_append]; omega)
    rw [hTG, show tagS s.data.toList l = sha M by rw [← hM, hST]; rfl]
    exact h
  rw [← hST] at HD3
  have HST32 := Lib.hid hST32
  clear hST hTG hST32 hlt3 hM
  go_wp2_with fail
  have hw2 : w.heap.size ≤ w2.heap.size + 1 := by have := HB2.out.size; omega
  have HB := Lib.hid (HB3.out.drew)
  have HD := Lib.hid (HD3.out.drew)
  clear HB3 HD3 HB2 HB1
  go_region_held3 (fun w' => True ∧ True)
    (exact ⟨trivial, trivial⟩)
    (first
      | (go_at_call 14
         refine (c1.out _ ?_).mono ?_
         · first
             | exact HB.out
             | exact HB.out.alloc HB.out.size _
         rintro e w4 ⟨rfl, hb4⟩
         first
           | (have HO := Lib.hid (HO.out.below hb4); have HD := Lib.hid (HD.out.below hb4 HD.out.lt); have HB := Lib.hid (HB.out.trans (hb4.mono HB.out.size)); clear hb4)
           | (have HD := Lib.hid (HD.out.below hb4 HD.out.lt); have HB := Lib.hid (HB.out.trans (hb4.mono HB.out.size)); clear hb4)
           | (have HO := Lib.hid ((OwnB.empty (B := w2.heap.size + 1) HD.out.lt).below hb4); have HD := Lib.hid ((HD.out.alloc _).below hb4 (HD.out.alloc _).lt); have HB := Lib.hid ((HB.out.alloc HB.out.size _).trans (hb4.mono (HB.out.alloc HB.out.size _).size)); clear hb4))
      | (go_at_call 12
         refine (c2.out _ _ _ HB.out HO.out.rdOf HO.out.caps.1 HO.out.caps.2).mono ?_
         rintro e w5 ⟨rfl, hb5⟩
         have HB := Lib.hid (HB.out.trans (hb5.mono HB.out.size))
         clear hb5)
      | ((refine step_appBn rfl (.tmp 24) (.tmp 25) rfl (w2.heap.size + 1) _ ST l _ a cap (by rfl) (by rfl) rfl HO.out ((HL.out.below HB.out).mono HB.out.size) HN.out ?_ HD.out.lt ?_
          · rw [HST32.out]; omega
          intro v6 w6 ho6 hg6
          rw [HMM.out] at ho6
          have HD := Lib.hid (BB.grownBy HD.out hg6.grown (fun e => absurd (HO.out.base _ e) (Nat.not_succ_le_self _)))
          have HB := Lib.hid (HB.out.trans (hg6.below (fun k hk => Nat.le_trans hw2 (HO.out.base k hk)) HB.out.size))
          have HO := Lib.hid ho6
          obtain ⟨a6, cap6, rfl, _, _⟩ := ho6.form
          clear ho6 hg6))
      | ((refine step_appBn rfl (.tmp 22) (.tmp 23) rfl (w2.heap.size + 1) _ [] ST _ (some ⟨w2.heap.size, 0, none⟩) 32 (by rfl) (by rfl) HST32.out.symm HO.out (HD.out.rdB (by rw [HST32.out]; unfold maxLen; omega)) (fun h => by cases h) ?_ HD.out.lt ?_
          · rw [HST32.out]; simp
          intro v6 w6 ho6 hg6
          have HD := Lib.hid (BB.grownBy HD.out hg6.grown (fun e => absurd (HO.out.base _ e) (Nat.not_succ_le_self _)))
          have HB := Lib.hid (HB.out.trans (hg6.below (fun k hk => Nat.le_trans hw2 (HO.out.base k hk)) HB.out.size))
          have HO := Lib.hid ho6
          clear ho6 hg6))
      | ((refine step_appBn rfl (.tmp 22) (.tmp 23) rfl (w2.heap.size + 1) _ [] ST _ (some ⟨w2.heap.size, 0, none⟩) 32 (by rfl) (by rfl) HST32.out.symm (OwnB.empty (B := w2.heap.size + 1) HD.out.lt) ((HD.out.alloc _).rdB (by rw [HST32.out]; unfold maxLen; omega)) (fun h => by cases h) ?_ (HD.out.alloc _).lt ?_
          · rw [HST32.out]; simp
          intro v6 w6 ho6 hg6
          have HD := Lib.hid (BB.grownBy (HD.out.alloc _) hg6.grown (fun e => by have := HD.out.lt; simp [Value.ownBlock] at e; omega))
          have HB := Lib.hid ((HB.out.alloc HB.out.size _).trans (hg6.below (empty_base HB.out.size) (HB.out.alloc HB.out.size _).size))
          have HO := Lib.hid ho6
          clear ho6 hg6)))
  all_goals
    go_wp2_with fail
    go_ret
    exact ⟨rfl, HB.out⟩
end Go.Proofs.YtndbhmipehpebaaDoor
