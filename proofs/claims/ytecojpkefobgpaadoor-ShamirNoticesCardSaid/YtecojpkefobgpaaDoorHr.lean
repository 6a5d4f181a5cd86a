/-
  The walk of ShamirNotices (chartroomlaw08).
-/
import Derived.Test.YtecojpkefobgpaaDoorHp
namespace Go.Proofs.YtecojpkefobgpaaDoor
open Go.RowKit
set_option linter.unusedVariables false
set_option linter.unusedSimpArgs false

set_option maxRecDepth 100000 in
set_option maxHeartbeats 4000000 in
theorem notices_big (secret need many : Int) (h1 : 12 < many) (h2 : many ≤ 64) (K : List UInt8) (A y : Int) (w : World) (hT : Tab w) :
    Calls Tryd.prog 5 #[.int .i64 secret, .int .i64 need, .int .i64 many, .agg (bvA K), .int .u64 A, .int .i64 y] w fun e w' => e = .returned (.bool true) ∧ Below w.heap.size w w' := by
  have HS1 := Lib.hid (SdB.start (K := K) hT)
  have f1 : decide (12 < many) = true := decide_eq_true h1
  have f2 : decide (many ≤ 64) = true := decide_eq_true h2
  clear hT
  go_enter Tryd.func5, Tryd.ntmps5
  go_wp2_with (go_at_call 8; refine (sane8_any _ HS1.out.tab).mono ?_; rintro e w2 ⟨rfl, hb⟩; refine Hid.out ?_)
  refine Lib.hid ?_
  have HS2 := Lib.hid (HS1.out.call hb)
  clear hb HS1
  go_wp2_with fail
  go_ret
  exact ⟨rfl, HS2.out.below⟩

set_option maxRecDepth 100000 in
set_option maxHeartbeats 4000000 in
theorem notices_err (secret need many : Int) (hm : decide (12 < many) = false ∨ (decide (12 < many) = true ∧ decide (many ≤ 64) = false)) (hE : splE secret need many ≠ 0) (K : List UInt8) (hK : K.length = 32) (A y : Int) (w : World) (hT : Tab w) :
    Calls Tryd.prog 5 #[.int .i64 secret, .int .i64 need, .int .i64 many, .agg (bvA K), .int .u64 A, .int .i64 y] w fun e w' => e = .returned (.bool true) ∧ Below w.heap.size w w' := by
  have HS1 := Lib.hid (SdB.start (K := K) hT)
  have HKS := Lib.hid (key_sz _ hK)
  have K1 := Lib.hid (fun W hT => Split_any secret need many K hK W hT)
  rw [splL_no hE] at K1
  obtain ⟨E, hEE⟩ : ∃ E, splE secret need many = E := ⟨_, rfl⟩
  rw [hEE] at K1 hE
  have f3 : (E != 0) = true := by simpa using hE
  have f3' : (E == 0) = false := by simpa using hE
  clear hT hEE hE
  rcases hm with f1 | ⟨f1, f2⟩
  · go_enter Tryd.func5, Tryd.ntmps5
    go_wp2_with (go_at_call 8; refine (sane8_any _ HS1.out.tab).mono ?_; rintro e w2 ⟨rfl, hb⟩; refine Hid.out ?_)
    refine Lib.hid ?_
    have HS2 := Lib.hid (HS1.out.call hb)
    clear hb HS1
    go_wp2_with (first
      | (refine wpList_load_row rfl 23 (.tmp 9) rfl w.heap.size rfl _ (bvA K) (0, 0) _ HS2.out.key Tryd.underlying23 rfl HKS.out ?_)
      | (go_at_call 9; refine (K1.out _ HS2.out.tab).mono ?_; rintro e w3 ⟨v3, rfl, ho, hb⟩; refine Hid.out ?_))
    refine Lib.hid ?_
    obtain ⟨a3, cap3, rfl, _, _, _, _⟩ := ho.formN 0 rfl
    have HS3 := Lib.hid (HS2.out.call hb)
    clear hb ho
    go_wp2_with fail
    go_ret
    exact ⟨rfl, HS3.out.below⟩
  · go_enter Tryd.func5, Tryd.ntmps5
    go_wp2_with (go_at_call 8; refine (sane8_any _ HS1.out.tab).mono ?_; rintro e w2 ⟨rfl, hb⟩; refine Hid.out ?_)
    refine Lib.hid ?_
    have HS2 := Lib.hid (HS1.out.call hb)
    clear hb HS1
    go_wp2_with (first
      | (refine wpList_load_row rfl 23 (.tmp 9) rfl w.heap.size rfl _ (bvA K) (0, 0) _ HS2.out.key Tryd.underlying23 rfl HKS.out ?_)
      | (go_at_call 9; refine (K1.out _ HS2.out.tab).mono ?_; rintro e w3 ⟨v3, rfl, ho, hb⟩; refine Hid.out ?_))
    refine Lib.hid ?_
    obtain ⟨a3, cap3, rfl, _, _, _, _⟩ := ho.formN 0 rfl
    have HS3 := Lib.hid (HS2.out.call hb)
    clear hb ho
    go_wp2_with fail
    go_ret
    exact ⟨rfl, HS3.out.below⟩


set_option maxRecDepth 100000 in
set_option maxHeartbeats 4000000 in
/-- Split succeeds, but there is nothing to change, or nothing to change it to. -/
theorem notices_none (secret : Int) (N M : Nat) (hs : scal secret = true) (h1 : 1 ≤ N) (h2 : N ≤ M) (h12 : M ≤ 12) (K : List UInt8) (hK : K.length = 32) (A y : Int) (hc : M ≤ N ∨ y < 0 ∨ 2305843009213688669 ≤ y) (w : World) (hT : Tab w) :
    Calls Tryd.prog 5 #[.int .i64 secret, .int .i64 N, .int .i64 M, .agg (bvA K), .int .u64 A, .int .i64 y] w fun e w' => e = .returned (.bool true) ∧ Below w.heap.size w w' := by
  have HS1 := Lib.hid (SdB.start (K := K) hT)
  have HKS := Lib.hid (key_sz _ hK)
  have K1 := Lib.hid (fun W hT => Split_ok secret N M K hK hs h1 h2 (by omega) W hT)
  have f1 : decide (12 < (M : Int)) = false := decide_eq_false (by omega)
  clear hT hs
  go_enter Tryd.func5, Tryd.ntmps5
  go_wp2_with (go_at_call 8; refine (sane8_any _ HS1.out.tab).mono ?_; rintro e w2 ⟨rfl, hb⟩; refine Hid.out ?_)
  refine Lib.hid ?_
  have HS2 := Lib.hid (HS1.out.call hb)
  clear hb HS1
  go_wp2_with (first
    | (refine wpList_load_row rfl 23 (.tmp 9) rfl w.heap.size rfl _ (bvA K) (0, 0) _ HS2.out.key Tryd.underlying23 rfl HKS.out ?_)
    | (go_at_call 9; refine (K1.out _ HS2.out.tab).mono ?_; rintro e w3 ⟨v3, rfl, ho, hb⟩; refine Hid.out ?_))
  refine Lib.hid ?_
  obtain ⟨a3, cap3, rfl, _, _, _, _⟩ := ho.formN M (splTo_len _ _)
  have HS3 := Lib.hid (HS2.out.call hb)
  clear hb ho
  by_cases g1 : M ≤ N
  · have e1 : decide ((M : Int) ≤ (N : Int)) = true := decide_eq_true (by omega)
    have e1' : decide (M ≤ N) = true := decide_eq_true g1
    go_wp2_with fail
    go_ret
    exact ⟨rfl, HS3.out.below⟩
  have e1 : decide ((M : Int) ≤ (N : Int)) = false := decide_eq_false (by omega)
  have e1' : decide (M ≤ N) = false := decide_eq_false g1
  by_cases g2 : y < 0
  · have e2 : decide (y < 0) = true := decide_eq_true g2
    go_wp2_with fail
    go_ret
    exact ⟨rfl, HS3.out.below⟩
  have e2 : decide (y < 0) = false := decide_eq_false g2
  have e3 : decide (2305843009213688669 ≤ y) = true := decide_eq_true (by omega)
  go_wp2_with fail
  go_ret
  exact ⟨rfl, HS3.out.below⟩

theorem OwnS.row {B : Nat} {w : World} {v : Value} {l : List Sh} (h : OwnS B w v l) (h0 : 0 < l.length) : ∃ g cap cur, v = .slice (some ⟨g, 0, none⟩) l.length cap ∧ B ≤ g ∧ w.heap[g]? = some (.cells cur 38 (0, 0)) ∧ l.length ≤ cap ∧ cap ≤ maxLen := by
  rcases h.2 with ⟨_, h1⟩ | ⟨g, cap, cur, hv, hg, hh, h3, h4, _⟩
  · omega
  · exact ⟨g, cap, cur, hv, hg, hh, h3, h4⟩
/-- Behind a store of one value. -/
theorem RdS.set {B : Nat} {w : World} {g : Nat} {l : List Sh} (h : RdS B w (some ⟨g, 0, none⟩) l) (i : Nat) (hi : i < l.length) (y : Int) : RdS B (w.setCell ⟨g, i * 2 + 1, none⟩ (.int .i64 y)) (some ⟨g, 0, none⟩) (setY l i y) := by
  obtain ⟨b, o, ha, hB, hc⟩ := h.at_ (by omega)
  injection ha with ha
  injection ha with ha1 ha2 ha3
  subst ha1
  subst ha2
  refine ⟨by rw [setY_len]; exact h.1, .inr ⟨g, 0, rfl, hB, fun j hj => ?_⟩⟩
  rw [setY_len] at hj
  obtain ⟨c0, c1⟩ := hc j hj
  rw [Nat.zero_add] at c0 c1 ⊢
  have hci : w.cell? ⟨g, i * 2 + 1, none⟩ = some (.int .i64 l[i].2) := by
    have := (hc i hi).2
    rw [Nat.zero_add] at this
    exact this
  have n0 : (⟨g, i * 2 + 1, none⟩ : Addr) ≠ ⟨g, j * 2, none⟩ := fun e => by injection e with _ e; omega
  rw [World.cell?_setCell_other _ _ _ _ n0, c0]
  by_cases e : i = j
  · subst e
    rw [World.cell?_setCell_same _ _ _ hci]
    unfold setY
    simp [List.getD, hi]
  · have n1 : (⟨g, i * 2 + 1, none⟩ : Addr) ≠ ⟨g, j * 2 + 1, none⟩ := fun k => by injection k with _ k; omega
    rw [World.cell?_setCell_other _ _ _ _ n1, c1]
    have e3 : (setY l i y)[j]'(by rw [setY_len]; exact hj) = l[j] := List.getElem_set_ne e _
    rw [e3]
    exact ⟨rfl, rfl⟩

set_option maxRecDepth 100000 in
set_option maxHeartbeats 8000000 in
theorem notices_ok (secret : Int) (N M : Nat) (hs : scal secret = true) (h1 : 1 ≤ N) (h2 : N < M) (h12 : M ≤ 12) (K : List UInt8) (hK : K.length = 32) (A : Nat) (hA : A < 18446744073709551616) (y : Int) (hy : scal y = true) (w : World) (hT : Tab w) :
    Calls Tryd.prog 5 #[.int .i64 secret, .int .i64 N, .int .i64 M, .agg (bvA K), .int .u64 A, .int .i64 y] w fun e w' => e = .returned (.bool true) ∧ Below w.heap.size w w' := by
  have HS1 := Lib.hid (SdB.start (K := K) hT)
  have HKS := Lib.hid (key_sz _ hK)
  have K1 := Lib.hid (fun W hT => Split_ok secret N M K hK hs h1 (by omega) (by omega) W hT)
  have f1 : decide (12 < (M : Int)) = false := decide_eq_false (by omega)
  have f2 : decide ((M : Int) ≤ (N : Int)) = false := decide_eq_false (by omega)
  have f2' : decide (M ≤ N) = false := decide_eq_false (by omega)
  obtain ⟨hy1, hy2⟩ := scal_of hy
  have f3 : decide (y < 0) = false := decide_eq_false (by omega)
  have f4 : decide (2305843009213688669 ≤ y) = false := decide_eq_false (by omega)
  have f5 : decide ((M : Int) < 1) = false := decide_eq_false (by omega)
  have hL := splTo_len (coS K secret (N - 1)) M
  have hLR := restore (K := K) (secret := secret) hs h1 (by omega : N ≤ M) (by omega) (List.Sublist.refl _) (by rw [hL]; omega)
  obtain ⟨L, hLL⟩ : ∃ L, splTo (coS K secret (N - 1)) M = L := ⟨_, rfl⟩
  rw [hLL] at K1 hL hLR
  obtain ⟨i, hi⟩ : ∃ i, A % M = i := ⟨_, rfl⟩
  have him : i < M := by rw [← hi]; exact Nat.mod_lt _ (by omega)
  have hiL : i < L.length := by omega
  have t1 : (A : Int).tmod (M : Int) = (i : Int) := by rw [Int.tmod_eq_emod_of_nonneg (by omega)]; omega
  have hv := (okS_out hLR.1).2.2
  have hfl : fitS L N = true := by
    have := hLR.2.2.1
    rw [(fitB_ok hLR.1 h1 (by omega)).1] at this
    exact this
  have hch := fit_changed (y := y) hv (by omega) hfl hiL hy
  have hok2 : okS (setY L i y) = true := okS_mk (by rw [setY_len]; omega) (by rw [setY_len]; omega) (chkL_setY L 0 i y hv hy)
  have hfb := fitB_ok (N := N) hok2 h1 (by omega)
  rw [hch] at hfb
  have HKF : Hid (∀ a cap W, M ≤ cap → cap ≤ maxLen → RdS W.heap.size W a (setY L i y) → Calls Tryd.prog 13 #[.slice a M cap, .int .i64 N] W fun e w' => e = .returned (.tuple #[.bool (y == L[i].2), .int .i64 0]) ∧ Below W.heap.size W w') := Lib.hid (fun a cap W h1 h2 h => by
    have k := Fits_any a cap (setY L i y) N W h (by rw [setY_len, hL]; exact h1) h2
    rw [setY_len, hL, hfb.1, hfb.2] at k
    exact k)
  have HML := Lib.hid hL
  have HSY : Hid (∀ B W g, RdS B W (some ⟨g, 0, none⟩) L → RdS B (W.setCell ⟨g, i * 2 + 1, none⟩ (.int .i64 y)) (some ⟨g, 0, none⟩) (setY L i y)) := Lib.hid (fun B W g h => h.set i hiL y)
  have HLI : Hid (∀ B W a, RdS B W a L → ∃ b o, a = some ⟨b, o, none⟩ ∧ W.cell? ⟨b, o + i * 2 + 1, none⟩ = some (.int .i64 L[i].2)) := Lib.hid (fun B W a h => by
    obtain ⟨b, o, ha, _, hc⟩ := h.at_ (by omega)
    exact ⟨b, o, ha, (hc i hiL).2⟩)
  generalize L[i].2 = yi at *
  clear hT hs hLR hL hLL hi hv hfl hch hok2 hfb hy
  go_enter Tryd.func5, Tryd.ntmps5
  go_wp2_with (go_at_call 8; refine (sane8_any _ HS1.out.tab).mono ?_; rintro e w2 ⟨rfl, hb⟩; refine Hid.out ?_)
  refine Lib.hid ?_
  have HS2 := Lib.hid (HS1.out.call hb)
  clear hb HS1
  go_wp2_with (first
    | (refine wpList_load_row rfl 23 (.tmp 9) rfl w.heap.size rfl _ (bvA K) (0, 0) _ HS2.out.key Tryd.underlying23 rfl HKS.out ?_)
    | (go_at_call 9; refine (K1.out _ HS2.out.tab).mono ?_; rintro e w3 ⟨v3, rfl, ho, hb⟩; refine Hid.out ?_))
  refine Lib.hid ?_
  obtain ⟨a3, cap3, rfl, hc3, hm3, hn3, hr3⟩ := ho.formN M HML.out
  have HB3 := Lib.hid (HS2.out.call hb).below
  have HR3 := Lib.hid hr3
  have HN3 := Lib.hid hn3
  clear hb ho hr3 HS2 K1 hc3 hm3 hn3
  have HOE : Hid (OwnS w3.heap.size (w3.alloc (.cells #[] 38)) (.slice (some ⟨w3.heap.size, 0, none⟩) 0 0) []) := Lib.hid (OwnS.empty (Nat.le_refl _))
  have HAE : Hid (Below w3.heap.size w3 (w3.alloc (.cells #[] 38))) := Lib.hid ((Below.refl _ _).alloc (Nat.le_refl _) _)
  have HRE := Lib.hid (HR3.out.call HAE.out)
  have HLE : Hid ((([] : List Sh).length + L.length) * 16 ≤ 140737488355328) := Lib.hid (by rw [List.length_nil, HML.out]; omega)
  go_wp2_with (refine wpList_appShr rfl (.tmp 65) (.tmp 66) rfl w3.heap.size _ [] L a3 cap3 rfl HOE.out (by rw [HML.out]; rfl) HRE.out HN3.out HLE.out HAE.out.size ?_)
  intro v4 w4 ho4 hg4
  have ho4' : OwnS w3.heap.size w4 v4 L := ho4
  have HA4 := Lib.hid (HAE.out.trans (hg4.below HOE.out.base HAE.out.size))
  obtain ⟨a4, cap4, hv4, hc4, hm4, _, hr4⟩ := ho4'.formN M HML.out
  obtain ⟨g, cap4', cur, hv4', hgB, hgh, _, _⟩ := ho4'.row (by rw [HML.out]; omega)
  rw [hv4] at hv4'
  injection hv4' with hv1 hv2 hv3
  subst hv1
  subst hv4
  have HRD4 := Lib.hid hr4
  obtain ⟨b4, o4, hb4, hy4⟩ := HLI.out _ _ _ hr4
  injection hb4 with hb4
  injection hb4 with hb5 hb6 hb7
  subst hb5
  subst hb6
  have c1 : w4.cell? ⟨g, i * 2 + 1, none⟩ = some (.int .i64 yi) := by rw [Nat.zero_add] at hy4; exact hy4
  have c2 : w4.frozen? ⟨g, i * 2 + 1, none⟩ = false := frozen_of_row w4 g (i * 2 + 1) cur _ hgh
  have HC4 := Lib.hid hc4
  have HM4 := Lib.hid hm4
  have HGB := Lib.hid hgB
  have u1 := wrapU (M : Int) (by omega) (by omega)
  have u2 := wrapI (i : Int) (by omega) (by omega)
  have u3 : ((M : Int) == 0) = false := by simp; omega
  clear ho4 hg4 ho4' hr4 hgh hv2 hv3 hy4 hc4 hm4 hgB hb7
  have HR5 : Hid (RdS (w4.setCell ⟨g, i * 2 + 1, none⟩ (.int .i64 y)).heap.size (w4.setCell ⟨g, i * 2 + 1, none⟩ (.int .i64 y)) (some ⟨g, 0, none⟩) (setY L i y)) := Lib.hid (by
    have h := HSY.out _ _ _ HRD4.out
    simpa using h)
  have HA5 : Hid (Below w3.heap.size w3 (w4.setCell ⟨g, i * 2 + 1, none⟩ (.int .i64 y))) := Lib.hid (HA4.out.setCell (p := ⟨g, i * 2 + 1, none⟩) HGB.out _)
  go_wp2_with (go_at_call 13; refine (HKF.out _ _ _ HC4.out HM4.out HR5.out).mono ?_; rintro e w6 ⟨rfl, hb⟩; refine Hid.out ?_)
  refine Lib.hid ?_
  have HA6 := Lib.hid (HA5.out.trans (hb.mono (by have := HA4.out.size; simpa using this)))
  obtain ⟨b6, o6, rfl, c6⟩ := HLI.out _ _ _ (HR3.out.below HA6.out)
  clear hb c1 c2
  by_cases hyy : y = yi
  · subst hyy
    go_wp2_with fail
    go_ret
    exact ⟨rfl, HB3.out.trans (HA6.out.mono HB3.out.size)⟩
  · have e1 : (y == yi) = false := by simpa using hyy
    go_wp2_with fail
    go_ret
    exact ⟨rfl, HB3.out.trans (HA6.out.mono HB3.out.size)⟩

theorem notices_walk8 (secret need many : Int) (K : List UInt8) (hK : K.length = 32) (A : Int) (hA : (Lit.int .u64 A).wf = true) (y : Int) (w : World) (hT : Tab w) :
    Calls Tryd.prog 5 #[.int .i64 secret, .int .i64 need, .int .i64 many, .agg (bvA K), .int .u64 A, .int .i64 y] w fun e w' => e = .returned (.bool true) ∧ Below w.heap.size w w' := by
  by_cases hb : 12 < many ∧ many ≤ 64
  · exact notices_big secret need many hb.1 hb.2 K A y w hT
  · by_cases hE : splE secret need many = 0
    · obtain ⟨h1, h2, h3, h4⟩ := splE_zero hE
      obtain ⟨N, rfl⟩ : ∃ N : Nat, need = N := ⟨need.toNat, by omega⟩
      obtain ⟨M, rfl⟩ : ∃ M : Nat, many = M := ⟨many.toNat, by omega⟩
      by_cases hc : M ≤ N ∨ y < 0 ∨ 2305843009213688669 ≤ y
      · exact notices_none secret N M h1 (by omega) (by omega) (by omega) K hK A y hc w hT
      · have hA2 := bounds_u64 hA
        obtain ⟨B, rfl⟩ : ∃ B : Nat, A = B := ⟨A.toNat, by omega⟩
        exact notices_ok secret N M h1 (by omega) (by omega) (by omega) K hK B (by omega) y (by unfold scal; rw [decide_eq_true (show 0 ≤ y by omega), decide_eq_true (show y < 2305843009213688669 by omega)]; rfl) w hT
    · exact notices_err secret need many (many_cases hb) hE K hK A y w hT
end Go.Proofs.YtecojpkefobgpaaDoor
