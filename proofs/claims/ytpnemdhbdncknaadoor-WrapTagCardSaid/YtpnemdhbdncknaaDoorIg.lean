/-
  Package wrap: Check; the elements and the key of both sides; the sender.
-/
import Derived.Test.YtpnemdhbdncknaaDoorId
import Derived.Test.YtpnemdhbdncknaaDoorIe
import Derived.Test.YtpnemdhbdncknaaDoorIf
import Derived.Test.YtpnemdhbdncknaaDoorPkD
import Derived.Test.YtpnemdhbdncknaaDoorPkB
namespace Go.Proofs.YtpnemdhbdncknaaDoor
open Go.RowKit
set_option linter.unusedVariables false
set_option linter.unusedSimpArgs false

set_option maxRecDepth 100000 in
set_option maxHeartbeats 800000 in
theorem wCheck_any (u : Int) (a : Option Addr) (n c : Nat) (w : World) :
    Calls Tryd.prog 14 #[wrV u (.slice a n c)] w fun e w' => e = .returned (.int .i64 (wcE u n)) ∧ Below w.heap.size w w' := by
  unfold wrV
  have KC := Lib.hid (fun W => gCheck_any u W)
  obtain ⟨w1, hw1⟩ : ∃ w1, w1 = w.alloc (.cells #[.int .i64 u, .slice a n c] 32) := ⟨_, rfl⟩
  have HB1 : Hid (Below w.heap.size w w1) := Lib.hid (hw1 ▸ (Below.refl _ _).alloc (Nat.le_refl _) _)
  have HC1 : Hid (CB w1 w.heap.size 32 #[.int .i64 u, .slice a n c]) := Lib.hid (hw1 ▸ CB.new w _ _)
  go_enter Tryd.func14, Tryd.ntmps14
  go_wp2_with fail
  rw [← hw1]
  clear hw1
  refine (KC.out _).mono ?_
  rintro e w2 ⟨rfl, hb⟩
  have HB2 := Lib.hid (HB1.out.trans (hb.mono HB1.out.size))
  have c1 : w2.cell? ⟨w.heap.size, 1, none⟩ = some (.slice a n c) := (HC1.out.call hb).cell 1
  clear hb HB1 HC1 KC
  rcases chkR_or u with h | h
  · rw [h]
    by_cases h1 : n < 16
    · have f1 : decide ((n : Int) < 16) = true := decide_eq_true (by omega)
      have HE := Lib.hid (wcE_bad (u := u) (.inr (.inl h1)))
      go_wp2_with fail
      go_ret
      exact ⟨by rw [HE.out]; rfl, HB2.out⟩
    · have f1 : decide ((n : Int) < 16) = false := decide_eq_false (by omega)
      by_cases h2 : 65552 < n
      · have f2 : decide ((65552 : Int) < (n : Int)) = true := decide_eq_true (by omega)
        have HE := Lib.hid (wcE_bad (u := u) (.inr (.inr h2)))
        go_wp2_with fail
        go_ret
        exact ⟨by rw [HE.out]; rfl, HB2.out⟩
      · have f2 : decide ((65552 : Int) < (n : Int)) = false := decide_eq_false (by omega)
        have HE := Lib.hid (wcE_ok (u := u) (n := n) h (by omega) (by omega))
        go_wp2_with fail
        go_ret
        exact ⟨by rw [HE.out]; rfl, HB2.out⟩
  · have HE := Lib.hid (wcE_bad (u := u) (n := n) (.inl (by rw [h]; decide)))
    rw [h]
    go_wp2_with fail
    go_ret
    exact ⟨by rw [HE.out]; rfl, HB2.out⟩

set_option maxRecDepth 100000 in
set_option maxHeartbeats 800000 in
theorem sElems_any (p k u : Int) (w : World) :
    Calls Tryd.prog 112 #[.agg #[.int .i64 p, .int .i64 k, .int .i64 u]] w fun e w' => e = .returned (.agg #[.int .i64 p, .int .i64 u, .int .i64 (expR p k).1]) ∧ Below w.heap.size w w' := by
  have KE := Lib.hid (fun W => gExp_any p k W)
  obtain ⟨v, hv⟩ : ∃ v, (expR p k).1 = v := ⟨_, rfl⟩
  obtain ⟨x, hx⟩ : ∃ x, (expR p k).2 = x := ⟨_, rfl⟩
  rw [hv, hx] at KE
  rw [hv]
  clear hv hx
  obtain ⟨w1, hw1⟩ : ∃ w1, w1 = (w.alloc (.cells #[.int .i64 p, .int .i64 k, .int .i64 u] 57)).alloc (.cells #[.int .i64 0, .int .i64 0, .int .i64 0] 74) := ⟨_, rfl⟩
  have HB1 : Hid (Below w.heap.size w w1) := Lib.hid (hw1 ▸ ((Below.refl _ _).alloc (Nat.le_refl _) _).alloc (by simp) _)
  have HS1 : Hid (CB w1 w.heap.size 57 #[.int .i64 p, .int .i64 k, .int .i64 u]) := Lib.hid (hw1 ▸ (CB.new w _ _).alloc _)
  have HD1 : Hid (CB w1 (w.heap.size + 1) 74 #[.int .i64 0, .int .i64 0, .int .i64 0]) := Lib.hid (hw1 ▸ (by have h := CB.new (w.alloc (.cells #[.int .i64 p, .int .i64 k, .int .i64 u] 57)) 74 #[.int .i64 0, .int .i64 0, .int .i64 0]; rw [alloc_size] at h; exact h))
  go_enter Tryd.func112, Tryd.ntmps112
  go_wp2_with fail
  rw [← hw1]
  clear hw1
  refine (KE.out _).mono ?_
  rintro e w2 ⟨rfl, hb⟩
  have HB2 := Lib.hid (HB1.out.trans (hb.mono HB1.out.size))
  have c0 : w2.cell? ⟨w.heap.size, 0, none⟩ = some (.int .i64 p) := (HS1.out.call hb).cell 0
  have c2 : w2.cell? ⟨w.heap.size, 2, none⟩ = some (.int .i64 u) := (HS1.out.call hb).cell 2
  have HD2 := Lib.hid (HD1.out.call hb)
  clear hb HB1 HS1 HD1 KE
  have d0 : w2.cell? ⟨w.heap.size + 1, 0, none⟩ = some (.int .i64 0) := HD2.out.cell 0
  have d1 : w2.cell? ⟨w.heap.size + 1, 1, none⟩ = some (.int .i64 0) := HD2.out.cell 1
  have d2 : w2.cell? ⟨w.heap.size + 1, 2, none⟩ = some (.int .i64 0) := HD2.out.cell 2
  have e0 := HD2.out.frozen 0
  have e1 := HD2.out.frozen 1
  have e2 := HD2.out.frozen 2
  go_wp2_with fail
  have h9 := ((HD2.out.set 0 (.int .i64 p)).set 1 (.int .i64 u)).set 2 (.int .i64 v)
  have hB9 := ((HB2.out.setCell (p := ⟨w.heap.size + 1, 0, none⟩) (Nat.le_succ _) (.int .i64 p)).setCell (p := ⟨w.heap.size + 1, 1, none⟩) (Nat.le_succ _) (.int .i64 u)).setCell (p := ⟨w.heap.size + 1, 2, none⟩) (Nat.le_succ _) (.int .i64 v)
  refine bodyPost_ret (v := .agg #[.int .i64 p, .int .i64 u, .int .i64 v]) ?_ rfl ⟨rfl, hB9⟩
  exact results_cell_row rfl _ _ (w.heap.size + 1) 74 _ (0, 0) _ rfl h9 Tryd.underlying74 rfl (by kernel_rfl)
set_option maxRecDepth 100000 in
set_option maxHeartbeats 800000 in
theorem rElems_any (p x u : Int) (w : World) :
    Calls Tryd.prog 113 #[.agg #[.int .i64 p, .int .i64 x, .int .i64 u]] w fun e w' => e = .returned (.agg #[.int .i64 p, .int .i64 u, .int .i64 (expR u x).1]) ∧ Below w.heap.size w w' := by
  have KE := Lib.hid (fun W => gExp_any u x W)
  obtain ⟨v, hv⟩ : ∃ v, (expR u x).1 = v := ⟨_, rfl⟩
  obtain ⟨y, hx⟩ : ∃ y, (expR u x).2 = y := ⟨_, rfl⟩
  rw [hv, hx] at KE
  rw [hv]
  clear hv hx
  obtain ⟨w1, hw1⟩ : ∃ w1, w1 = (w.alloc (.cells #[.int .i64 p, .int .i64 x, .int .i64 u] 62)).alloc (.cells #[.int .i64 0, .int .i64 0, .int .i64 0] 74) := ⟨_, rfl⟩
  have HB1 : Hid (Below w.heap.size w w1) := Lib.hid (hw1 ▸ ((Below.refl _ _).alloc (Nat.le_refl _) _).alloc (by simp) _)
  have HS1 : Hid (CB w1 w.heap.size 62 #[.int .i64 p, .int .i64 x, .int .i64 u]) := Lib.hid (hw1 ▸ (CB.new w _ _).alloc _)
  have HD1 : Hid (CB w1 (w.heap.size + 1) 74 #[.int .i64 0, .int .i64 0, .int .i64 0]) := Lib.hid (hw1 ▸ (by have h := CB.new (w.alloc (.cells #[.int .i64 p, .int .i64 x, .int .i64 u] 62)) 74 #[.int .i64 0, .int .i64 0, .int .i64 0]; rw [alloc_size] at h; exact h))
  go_enter Tryd.func113, Tryd.ntmps113
  go_wp2_with fail
  rw [← hw1]
  clear hw1
  refine (KE.out _).mono ?_
  rintro e w2 ⟨rfl, hb⟩
  have HB2 := Lib.hid (HB1.out.trans (hb.mono HB1.out.size))
  have c0 : w2.cell? ⟨w.heap.size, 0, none⟩ = some (.int .i64 p) := (HS1.out.call hb).cell 0
  have c2 : w2.cell? ⟨w.heap.size, 2, none⟩ = some (.int .i64 u) := (HS1.out.call hb).cell 2
  have HD2 := Lib.hid (HD1.out.call hb)
  clear hb HB1 HS1 HD1 KE
  have d0 : w2.cell? ⟨w.heap.size + 1, 0, none⟩ = some (.int .i64 0) := HD2.out.cell 0
  have d1 : w2.cell? ⟨w.heap.size + 1, 1, none⟩ = some (.int .i64 0) := HD2.out.cell 1
  have d2 : w2.cell? ⟨w.heap.size + 1, 2, none⟩ = some (.int .i64 0) := HD2.out.cell 2
  have e0 := HD2.out.frozen 0
  have e1 := HD2.out.frozen 1
  have e2 := HD2.out.frozen 2
  go_wp2_with fail
  have h9 := ((HD2.out.set 0 (.int .i64 p)).set 1 (.int .i64 u)).set 2 (.int .i64 v)
  have hB9 := ((HB2.out.setCell (p := ⟨w.heap.size + 1, 0, none⟩) (Nat.le_succ _) (.int .i64 p)).setCell (p := ⟨w.heap.size + 1, 1, none⟩) (Nat.le_succ _) (.int .i64 u)).setCell (p := ⟨w.heap.size + 1, 2, none⟩) (Nat.le_succ _) (.int .i64 v)
  refine bodyPost_ret (v := .agg #[.int .i64 p, .int .i64 u, .int .i64 v]) ?_ rfl ⟨rfl, hB9⟩
  exact results_cell_row rfl _ _ (w.heap.size + 1) 74 _ (0, 0) _ rfl h9 Tryd.underlying74 rfl (by kernel_rfl)

theorem meth_snd (v0 v1 v2 : Value) (n : Nat) (W : World) : (method (n + 1) 57 (.agg #[v0, v1, v2]) "chartroom/wrap.elements").run Tryd.prog W = .ok (112, .agg #[v0, v1, v2]) W := by kernel_rfl
set_option maxRecDepth 100000 in
set_option maxHeartbeats 1600000 in
theorem key_snd (p k u : Int) (w : World) (hT : Tab w) :
    Calls Tryd.prog 27 #[.agg #[.int .i64 p, .int .i64 k, .int .i64 u]] w fun e w' => e = .returned (.agg (bvA (wK p u (expR p k).1))) ∧ Below w.heap.size w w' := by
  have HT := Lib.hid hT
  have KE := Lib.hid (fun W => sElems_any p k u W)
  obtain ⟨v, hv⟩ : ∃ v, (expR p k).1 = v := ⟨_, rfl⟩
  rw [hv] at KE
  rw [hv]
  clear hv hT
  obtain ⟨X, hX⟩ : ∃ X, wK p u v = X := ⟨_, rfl⟩
  have HX : Hid (tagS (ByteArray.mk #[119, 114, 97, 112]).data.toList (be8 p ++ be8 u ++ be8 v) = X) := Lib.hid hX
  have HLX : Hid (X.length = 32) := Lib.hid (by rw [← hX]; exact wK_len _ _ _)
  rw [hX]
  clear hX
  have KB := Lib.hid (fun W => elems_any p u v W)
  obtain ⟨B, hB⟩ : ∃ B, be8 p ++ be8 u ++ be8 v = B := ⟨_, rfl⟩
  have HLB : Hid (B.length = 24) := Lib.hid (by rw [← hB]; simp [be8_len])
  rw [hB] at KB HX
  clear hB
  obtain ⟨w1, hw1⟩ : ∃ w1, w1 = (w.alloc (.cells #[.int .i64 p, .int .i64 k, .int .i64 u] 57)).alloc (.cells (bvA (List.replicate 32 0)) 23) := ⟨_, rfl⟩
  have HB1 : Hid (Below w.heap.size w w1) := Lib.hid (hw1 ▸ ((Below.refl _ _).alloc (Nat.le_refl _) _).alloc (by simp) _)
  have HD1 : Hid (BB w1 (w.heap.size + 1) 23 (List.replicate 32 0)) := Lib.hid (hw1 ▸ (by have h := BB.new (w.alloc (.cells #[.int .i64 p, .int .i64 k, .int .i64 u] 57)) 23 (List.replicate 32 0); rw [alloc_size] at h; exact h))
  go_enter Tryd.func27, Tryd.ntmps27
  have hme := fun n W => meth_snd (.int .i64 p) (.int .i64 k) (.int .i64 u) n W
  go_wp2_with fail
  change Calls _ _ _ ((w.alloc (.cells #[.int .i64 p, .int .i64 k, .int .i64 u] 57)).alloc (.cells (bvA (List.replicate 32 0)) 23)) _
  rw [← hw1]
  clear hw1 hme
  refine (KE.out _).mono ?_
  rintro e w2 ⟨rfl, hb⟩
  have HB2 := Lib.hid (HB1.out.trans (hb.mono HB1.out.size))
  have HD2 := Lib.hid (HD1.out.below hb HD1.out.lt)
  clear hb HB1 HD1 KE
  go_wp2_with (go_at_call 41; refine (KB.out _).mono ?_; rintro e w3 ⟨rfl, hb⟩; refine Hid.out ?_)
  refine Lib.hid ?_
  have HB3 := Lib.hid (HB2.out.trans (hb.mono HB2.out.size))
  have HD3 := Lib.hid (HD2.out.below hb HD2.out.lt)
  clear hb HB2 HD2 KB
  go_wp2_with (refine wpList_storeA rfl 72 (.tmp 3) (.tmp 7) rfl w3.heap.size (bvA B) rfl rfl 72 _ (BB.new w3 _ (List.replicate 24 0)) (els_sz _ HLB.out) (by rw [bvA_size, bvA_size, HLB.out, List.length_replicate]) (bvA_one _) ?_)
  intro w4 h4 hg4
  have HA4 : Hid (BB w4 w3.heap.size 72 B) := Lib.hid h4
  have hb4 : Below w3.heap.size w3 w4 := grown_below ((Below.refl _ _).alloc (Nat.le_refl _) _) hg4 (Nat.le_refl _) (by simp)
  have HB4 := Lib.hid (HB3.out.trans (hb4.mono HB3.out.size))
  have HD4 := Lib.hid (HD3.out.below hb4 HD3.out.lt)
  clear h4 hg4 hb4 HB3 HD3
  have hc := Tagged_any ⟨#[119, 114, 97, 112]⟩ (some ⟨w3.heap.size, 0, none⟩) 24 B w4 (HT.out.below HB4.out HT.out.lt) (HA4.out.rdB (by rw [HLB.out]; decide)) (by rw [HLB.out]; omega) (by unfold maxLen; omega) (by decide) (by rw [HLB.out]; omega)
  rw [HLB.out, HX.out] at hc
  have HC := Lib.hid hc
  clear hc HA4 HX HLB
  generalize w3.heap.size = g at *
  go_wp2_with (go_at_call 21; refine HC.out.mono ?_; rintro e w5 ⟨rfl, hb⟩; refine Hid.out ?_)
  refine Lib.hid ?_
  have HB5 := Lib.hid (HB4.out.trans (hb.mono HB4.out.size))
  have HD5 := Lib.hid (HD4.out.below hb HD4.out.lt)
  clear hb HB4 HD4 HC
  go_wp2_with (refine wpList_storeA rfl 23 (.tmp 2) (.tmp 9) rfl (w.heap.size + 1) (bvA X) rfl rfl 23 _ HD5.out (key_sz _ HLX.out) (key_old _ HLX.out) (bvA_one _) ?_)
  intro w9 h9 hg9
  have hB9 := grown_below HB5.out hg9 (by omega) HB5.out.size
  go_wp2_with fail
  refine bodyPost_ret (v := .agg (bvA X)) ?_ rfl ⟨rfl, hB9⟩
  exact results_cell_row rfl _ _ (w.heap.size + 1) 23 _ (0, 0) _ rfl h9 Tryd.underlying23 rfl (key_sz _ HLX.out)

theorem meth_rcv (v0 v1 v2 : Value) (n : Nat) (W : World) : (method (n + 1) 62 (.agg #[v0, v1, v2]) "chartroom/wrap.elements").run Tryd.prog W = .ok (113, .agg #[v0, v1, v2]) W := by kernel_rfl
set_option maxRecDepth 100000 in
set_option maxHeartbeats 1600000 in
theorem key_rcv (p k u : Int) (w : World) (hT : Tab w) :
    Calls Tryd.prog 31 #[.agg #[.int .i64 p, .int .i64 k, .int .i64 u]] w fun e w' => e = .returned (.agg (bvA (wK p u (expR u k).1))) ∧ Below w.heap.size w w' := by
  have HT := Lib.hid hT
  have KE := Lib.hid (fun W => rElems_any p k u W)
  obtain ⟨v, hv⟩ : ∃ v, (expR u k).1 = v := ⟨_, rfl⟩
  rw [hv] at KE
  rw [hv]
  clear hv hT
  obtain ⟨X, hX⟩ : ∃ X, wK p u v = X := ⟨_, rfl⟩
  have HX : Hid (tagS (ByteArray.mk #[119, 114, 97, 112]).data.toList (be8 p ++ be8 u ++ be8 v) = X) := Lib.hid hX
  have HLX : Hid (X.length = 32) := Lib.hid (by rw [← hX]; exact wK_len _ _ _)
  rw [hX]
  clear hX
  have KB := Lib.hid (fun W => elems_any p u v W)
  obtain ⟨B, hB⟩ : ∃ B, be8 p ++ be8 u ++ be8 v = B := ⟨_, rfl⟩
  have HLB : Hid (B.length = 24) := Lib.hid (by rw [← hB]; simp [be8_len])
  rw [hB] at KB HX
  clear hB
  obtain ⟨w1, hw1⟩ : ∃ w1, w1 = (w.alloc (.cells #[.int .i64 p, .int .i64 k, .int .i64 u] 62)).alloc (.cells (bvA (List.replicate 32 0)) 23) := ⟨_, rfl⟩
  have HB1 : Hid (Below w.heap.size w w1) := Lib.hid (hw1 ▸ ((Below.refl _ _).alloc (Nat.le_refl _) _).alloc (by simp) _)
  have HD1 : Hid (BB w1 (w.heap.size + 1) 23 (List.replicate 32 0)) := Lib.hid (hw1 ▸ (by have h := BB.new (w.alloc (.cells #[.int .i64 p, .int .i64 k, .int .i64 u] 62)) 23 (List.replicate 32 0); rw [alloc_size] at h; exact h))
  go_enter Tryd.func31, Tryd.ntmps31
  have hme := fun n W => meth_rcv (.int .i64 p) (.int .i64 k) (.int .i64 u) n W
  go_wp2_with fail
  change Calls _ _ _ ((w.alloc (.cells #[.int .i64 p, .int .i64 k, .int .i64 u] 62)).alloc (.cells (bvA (List.replicate 32 0)) 23)) _
  rw [← hw1]
  clear hw1 hme
  refine (KE.out _).mono ?_
  rintro e w2 ⟨rfl, hb⟩
  have HB2 := Lib.hid (HB1.out.trans (hb.mono HB1.out.size))
  have HD2 := Lib.hid (HD1.out.below hb HD1.out.lt)
  clear hb HB1 HD1 KE
  go_wp2_with (go_at_call 41; refine (KB.out _).mono ?_; rintro e w3 ⟨rfl, hb⟩; refine Hid.out ?_)
  refine Lib.hid ?_
  have HB3 := Lib.hid (HB2.out.trans (hb.mono HB2.out.size))
  have HD3 := Lib.hid (HD2.out.below hb HD2.out.lt)
  clear hb HB2 HD2 KB
  go_wp2_with (refine wpList_storeA rfl 72 (.tmp 3) (.tmp 7) rfl w3.heap.size (bvA B) rfl rfl 72 _ (BB.new w3 _ (List.replicate 24 0)) (els_sz _ HLB.out) (by rw [bvA_size, bvA_size, HLB.out, List.length_replicate]) (bvA_one _) ?_)
  intro w4 h4 hg4
  have HA4 : Hid (BB w4 w3.heap.size 72 B) := Lib.hid h4
  have hb4 : Below w3.heap.size w3 w4 := grown_below ((Below.refl _ _).alloc (Nat.le_refl _) _) hg4 (Nat.le_refl _) (by simp)
  have HB4 := Lib.hid (HB3.out.trans (hb4.mono HB3.out.size))
  have HD4 := Lib.hid (HD3.out.below hb4 HD3.out.lt)
  clear h4 hg4 hb4 HB3 HD3
  have hc := Tagged_any ⟨#[119, 114, 97, 112]⟩ (some ⟨w3.heap.size, 0, none⟩) 24 B w4 (HT.out.below HB4.out HT.out.lt) (HA4.out.rdB (by rw [HLB.out]; decide)) (by rw [HLB.out]; omega) (by unfold maxLen; omega) (by decide) (by rw [HLB.out]; omega)
  rw [HLB.out, HX.out] at hc
  have HC := Lib.hid hc
  clear hc HA4 HX HLB
  generalize w3.heap.size = g at *
  go_wp2_with (go_at_call 21; refine HC.out.mono ?_; rintro e w5 ⟨rfl, hb⟩; refine Hid.out ?_)
  refine Lib.hid ?_
  have HB5 := Lib.hid (HB4.out.trans (hb.mono HB4.out.size))
  have HD5 := Lib.hid (HD4.out.below hb HD4.out.lt)
  clear hb HB4 HD4 HC
  go_wp2_with (refine wpList_storeA rfl 23 (.tmp 2) (.tmp 9) rfl (w.heap.size + 1) (bvA X) rfl rfl 23 _ HD5.out (key_sz _ HLX.out) (key_old _ HLX.out) (bvA_one _) ?_)
  intro w9 h9 hg9
  have hB9 := grown_below HB5.out hg9 (by omega) HB5.out.size
  go_wp2_with fail
  refine bodyPost_ret (v := .agg (bvA X)) ?_ rfl ⟨rfl, hB9⟩
  exact results_cell_row rfl _ _ (w.heap.size + 1) 23 _ (0, 0) _ rfl h9 Tryd.underlying23 rfl (key_sz _ HLX.out)
end Go.Proofs.YtpnemdhbdncknaaDoor
