/-
  The helpers of chartroomlaw08; the reference's Few, Check, Same.
-/
import Derived.Test.YtecojpkefobgpaaDoorHk
namespace Go.Proofs.YtecojpkefobgpaaDoor
open Go.RowKit
set_option linter.unusedVariables false
set_option linter.unusedSimpArgs false

/-- Whether there are few shares, or too many. -/
def fewB (n : Nat) : Bool := decide (n ≤ 12) || (decide (64 < n) && decide (n ≤ 100))
theorem few_any (a : Option Addr) (n cap : Nat) (hn : n ≤ maxLen) (w : World) :
    Calls Tryd.prog 19 #[.slice a n cap] w fun e w' => e = .returned (.bool (fewB n)) ∧ w' = w := by
  obtain ⟨C, hC⟩ : ∃ C, fewB n = C := ⟨_, rfl⟩
  rw [hC]
  have HC := Lib.hid hC
  clear hC
  unfold maxLen at hn
  by_cases h1 : n ≤ 12
  · have f1 : decide ((n : Int) ≤ 12) = true := decide_eq_true (by omega)
    have HF : Hid (true = C) := Lib.hid (by rw [← HC.out]; unfold fewB; rw [decide_eq_true h1]; rfl)
    go_enter Tryd.func19, Tryd.ntmps19
    go_wp2_with fail
    go_ret
    exact ⟨by rw [← HF.out]; rfl, rfl⟩
  · have f1 : decide ((n : Int) ≤ 12) = false := decide_eq_false (by omega)
    by_cases h2 : 64 < n
    · have f2 : decide (64 < (n : Int)) = true := decide_eq_true (by omega)
      by_cases h3 : n ≤ 100
      · have f3 : decide ((n : Int) ≤ 100) = true := decide_eq_true (by omega)
        have HF : Hid (true = C) := Lib.hid (by rw [← HC.out]; unfold fewB; rw [decide_eq_false h1, decide_eq_true h2, decide_eq_true h3]; rfl)
        go_enter Tryd.func19, Tryd.ntmps19
        go_wp2_with fail
        go_ret
        exact ⟨by rw [← HF.out]; rfl, rfl⟩
      · have f3 : decide ((n : Int) ≤ 100) = false := decide_eq_false (by omega)
        have HF : Hid (false = C) := Lib.hid (by rw [← HC.out]; unfold fewB; rw [decide_eq_false h1, decide_eq_true h2, decide_eq_false h3]; rfl)
        go_enter Tryd.func19, Tryd.ntmps19
        go_wp2_with fail
        go_ret
        exact ⟨by rw [← HF.out]; rfl, rfl⟩
    · have f2 : decide (64 < (n : Int)) = false := decide_eq_false (by omega)
      have HF : Hid (false = C) := Lib.hid (by rw [← HC.out]; unfold fewB; rw [decide_eq_false h1, decide_eq_false h2]; rfl)
      go_enter Tryd.func19, Tryd.ntmps19
      go_wp2_with fail
      go_ret
      exact ⟨by rw [← HF.out]; rfl, rfl⟩

theorem scalar8_any (a : Int) (w : World) :
    Calls Tryd.prog 30 #[.int .i64 a] w fun e w' => e = .returned (.bool (scal a)) ∧ w' = w := by
  unfold scal
  by_cases h : 0 ≤ a
  · have f1 : decide (0 ≤ a) = true := decide_eq_true h
    by_cases h2 : a < 2305843009213688669
    · have f2 : decide (a < 2305843009213688669) = true := decide_eq_true h2
      go_enter Tryd.func30, Tryd.ntmps30
      go_wp2_with fail
      go_ret
      first | exact ⟨rfl, rfl⟩ | exact ⟨by rw [f1, f2]; rfl, rfl⟩
    · have f2 : decide (a < 2305843009213688669) = false := decide_eq_false h2
      go_enter Tryd.func30, Tryd.ntmps30
      go_wp2_with fail
      go_ret
      first | exact ⟨rfl, rfl⟩ | exact ⟨by rw [f1, f2]; rfl, rfl⟩
  · have f1 : decide (0 ≤ a) = false := decide_eq_false h
    go_enter Tryd.func30, Tryd.ntmps30
    go_wp2_with fail
    go_ret
    first | exact ⟨rfl, rfl⟩ | exact ⟨by rw [f1]; rfl, rfl⟩

/-- A slice of bools that is read. -/
def RdT (B : Nat) (w : World) (a : Option Addr) (l : List Bool) : Prop :=
  l.length ≤ maxLen ∧ (l = [] ∨ ∃ b o, a = some ⟨b, o, none⟩ ∧ b < B ∧ ∀ j (h : j < l.length), w.cell? ⟨b, o + j, none⟩ = some (.bool l[j]))
theorem RdT.at_ {B : Nat} {w : World} {a : Option Addr} {l : List Bool} (h : RdT B w a l) (h0 : 0 < l.length) : ∃ b o, a = some ⟨b, o, none⟩ ∧ b < B ∧ ∀ j (h : j < l.length), w.cell? ⟨b, o + j, none⟩ = some (.bool l[j]) := by
  rcases h.2 with e | e
  · rw [e] at h0; cases h0
  · exact e
theorem RdT.call {w w' : World} {a : Option Addr} {l : List Bool} (h : RdT w.heap.size w a l) (hb : Below w.heap.size w w') : RdT w'.heap.size w' a l := by
  refine ⟨h.1, h.2.imp_right ?_⟩
  rintro ⟨b, o, e, hB, hc⟩
  exact ⟨b, o, e, Nat.lt_of_lt_of_le hB hb.size, fun j hj => (hb.cell (p := ⟨b, o + j, none⟩) hB).trans (hc j hj)⟩

set_option maxRecDepth 100000 in
set_option maxHeartbeats 2000000 in
theorem chosen_any (a : Option Addr) (cap : Nat) (l : List Sh) (a' : Option Addr) (cap' : Nat) (t : List Bool) (w : World) (hl : RdS w.heap.size w a l) (ht : RdT w.heap.size w a' t) (h64 : l.length ≤ 64) :
    Calls Tryd.prog 10 #[.slice a l.length cap, .slice a' t.length cap'] w fun e w' => ∃ v, e = .returned v ∧ OwnS w.heap.size w' v (cho l t) ∧ Below w.heap.size w w' := by
  have HR := Lib.hid hl
  have HT := Lib.hid ht
  have HS := Lib.hid (fun j h => cho_snoc l t j h)
  have hm := ht.1
  unfold maxLen at hm
  have HL : Hid (∀ k, (cho (l.take k) t).length ≤ 1000000) := Lib.hid (fun k => by
    have h1 := (cho_sub (l.take k) t).length_le
    rw [List.length_take] at h1
    omega)
  obtain ⟨n, hn⟩ : ∃ n, l.length = n := ⟨_, rfl⟩
  have HN := Lib.hid hn
  obtain ⟨m, hmm⟩ : ∃ m, t.length = m := ⟨_, rfl⟩
  have HM := Lib.hid hmm
  rw [hmm] at hm ⊢
  rw [hn] at h64 ⊢
  have HTN : Hid (cho (l.take n) t = cho l t) := Lib.hid (by rw [← hn, List.take_length])
  have HB0 := Lib.hid (Below.refl w.heap.size w)
  have HO0 : Hid (OwnS w.heap.size w (.slice none 0 0) (cho (l.take 0) t)) := Lib.hid (by rw [List.take_zero]; exact OwnS.nil _ _)
  clear hl ht hn hmm
  go_enter Tryd.func10, Tryd.ntmps10
  go_wp2_with fail
  go_loopw [5, 6] (fun v i wr => ∃ (k : Nat), k ≤ n ∧ i = .int .i64 k ∧ OwnS w.heap.size wr v (cho (l.take k) t) ∧ Below w.heap.size w wr) (fun _ i _ => n - (intOf i).toNat)
  case atStart => exact ⟨0, by omega, rfl, HO0.out, HB0.out⟩
  case round =>
    clear HB0 HO0
    obtain ⟨k, hk, rfl, ho, hb⟩ := hrel
    have HB := Lib.hid hb
    have HO := Lib.hid ho
    by_cases hlt : k < n
    · have hkl : k < l.length := by rw [HN.out]; exact hlt
      have HSk := Lib.hid (HS.out k hkl)
      have HLk := Lib.hid (HL.out k)
      by_cases hkm : k < m
      · have hkt : k < t.length := by rw [HM.out]; exact hkm
        obtain ⟨b', o', rfl, hbB', hc'⟩ := HT.out.at_ (by omega)
        have c0 := (hb.cell (p := ⟨b', o' + k, none⟩) hbB').trans (hc' k hkt)
        have hg : t.getD k false = t[k] := by simp [List.getD, hkt]
        rw [hg] at HSk
        clear hc'
        cases htk : t[k]
        · rw [htk] at c0 HSk
          have HSk2 : Hid (cho (l.take (k + 1)) t = cho (l.take k) t) := Lib.hid (by rw [HSk.out]; simp)
          clear hb ho hg htk
          go_wp2_with fail
          go_roundw
          case rel => exact ⟨k + 1, by omega, by go_num, by rw [HSk2.out]; exact HO.out, HB.out⟩
          case measure => simp [intOf]; omega
        · rw [htk] at c0 HSk
          have HSk2 : Hid (cho (l.take (k + 1)) t = cho (l.take k) t ++ [l[k]]) := Lib.hid (by rw [HSk.out]; simp)
          obtain ⟨b, o, rfl, hbB, hc⟩ := HR.out.at_ (by omega)
          obtain ⟨d0, d1⟩ := hc k hkl
          have e0 := (hb.cell (p := ⟨b, o + k * 2, none⟩) hbB).trans d0
          have e1 := (hb.cell (p := ⟨b, o + k * 2 + 1, none⟩) hbB).trans d1
          generalize l[k] = s at *
          obtain ⟨s0, s1⟩ := s
          clear hb ho hg htk hc d0 d1 HSk HS
          go_wp2_with (refine wpList_appShr1 rfl (.tmp 23) (.tmp 28) rfl w.heap.size _ _ (s0, s1) _ _ rfl HO.out rfl rfl rfl HLk.out HB.out.size ?_)
          intro v5 w5 ho5 hb5
          have HO5 := Lib.hid ho5
          have HB5 := Lib.hid (HB.out.trans hb5)
          clear ho5 hb5
          go_wp2_with fail
          go_roundw
          case rel => exact ⟨k + 1, by omega, by go_num, by rw [HSk2.out]; exact HO5.out, HB5.out⟩
          case measure => simp [intOf]; omega
      · have HSk2 : Hid (cho (l.take (k + 1)) t = cho (l.take k) t) := Lib.hid (by
          have := HM.out
          rw [HSk.out]
          have hg : t.getD k false = false := by simp [List.getD, show t.length ≤ k by omega]
          rw [hg]; simp)
        clear hb ho
        go_wp2_with fail
        go_roundw
        case rel => exact ⟨k + 1, by omega, by go_num, by rw [HSk2.out]; exact HO.out, HB.out⟩
        case measure => simp [intOf]; omega
    · obtain rfl : k = n := by omega
      go_wp2_with fail
      go_ret
      exact ⟨_, rfl, by rw [← HTN.out]; exact HO.out, HB.out⟩

set_option maxRecDepth 100000 in
theorem joined_any (a : Option Addr) (cap : Nat) (l : List Sh) (p y : Int) (w : World) (hl : RdS w.heap.size w a l) (hnil : a = none → cap = 0) (h64 : l.length ≤ 64) :
    Calls Tryd.prog 15 #[.slice a l.length cap, .int .i64 p, .int .i64 y] w fun e w' => e = .returned (.tuple #[.int .i64 (joinV (l ++ [(p, y)]) : Nat), .int .i64 (errV (l ++ [(p, y)]))]) ∧ Below w.heap.size w w' := by
  have HO0 : Hid (OwnS w.heap.size (w.alloc (.cells #[] 38)) (.slice (some ⟨w.heap.size, 0, none⟩) 0 0) []) := Lib.hid (OwnS.empty (Nat.le_refl _))
  have HB0 : Hid (Below w.heap.size w (w.alloc (.cells #[] 38))) := Lib.hid ((Below.refl _ _).alloc (Nat.le_refl _) _)
  have HL := Lib.hid (hl.call HB0.out)
  have HNL := Lib.hid hnil
  have HLN : Hid (l.length ≤ 1000000) := Lib.hid (by omega)
  have HJ := Lib.hid (fun a cap W hl => Join_any a cap (l ++ [(p, y)]) W hl)
  have HLE : Hid ((([] : List Sh).length + l.length) * 16 ≤ 140737488355328) := Lib.hid (by rw [List.length_nil]; omega)
  obtain ⟨L, hL⟩ : ∃ L, l ++ [(p, y)] = L := ⟨_, rfl⟩
  rw [hL] at HJ ⊢
  have HLL := Lib.hid hL
  generalize joinV L = jv at *
  generalize errV L = ev at *
  clear hl hnil h64 hL
  go_enter Tryd.func15, Tryd.ntmps15
  go_wp2_with (refine wpList_appShr rfl (.tmp 8) (.tmp 9) rfl w.heap.size _ [] l a cap rfl HO0.out rfl HL.out HNL.out HLE.out HB0.out.size ?_)
  intro v2 w2 ho2 hg2
  have HO2 : Hid (OwnS w.heap.size w2 v2 l) := Lib.hid ho2
  have HB2 := Lib.hid (HB0.out.trans (hg2.below HO0.out.base HB0.out.size))
  clear ho2 hg2
  go_wp2_with (refine wpList_appShr1 rfl (.tmp 10) (.tmp 14) rfl w.heap.size _ _ (p, y) _ _ rfl HO2.out rfl rfl rfl HLN.out HB2.out.size ?_)
  intro v3 w3 ho3 hb3
  rw [HLL.out] at ho3
  obtain ⟨a3, cap3, rfl, _, _, _, hrd⟩ := ho3.form
  have HJ3 := Lib.hid (HJ.out a3 cap3 w3 hrd)
  have HB3 := Lib.hid (HB2.out.trans hb3)
  clear ho3 hb3 hrd
  generalize L.length = n at *
  go_wp2_with (go_at_call 12; with_reducible refine HJ3.out.mono ?_; rintro e w4 ⟨rfl, hb4⟩; have HB4 := Lib.hid (HB3.out.trans (hb4.mono HB3.out.size)); clear hb4)
  go_ret2
  exact ⟨rfl, HB4.out⟩
end Go.Proofs.YtecojpkefobgpaaDoor
