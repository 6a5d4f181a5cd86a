/-
  Package cipher: Open.
-/
import Derived.Test.YtcibbghggfklbaaDoorCe
namespace Go.Proofs.YtcibbghggfklbaaDoor
open Go.RowKit
set_option linter.unusedVariables false
set_option linter.unusedSimpArgs false

theorem key_sizeL (k : List UInt8) (hk : k.length = 32) : (Tryd.prog.info? 23).map (·.size) = some (k.map bv).length := by rw [List.length_map, hk]; kernel_rfl
theorem nonce_sizeL (n : List UInt8) (hn : n.length = 12) : (Tryd.prog.info? 25).map (·.size) = some (n.map bv).length := by rw [List.length_map, hn]; kernel_rfl

theorem Open_short (k n : List UInt8) (hv : Value) (a : Option Addr) (q cap : Nat) (w : World) (hq : q < 16 ∨ 65552 < q) (hq2 : q ≤ 9223372036854775807) :
    Calls Tryd.prog 18 #[.agg (bvA k), .agg (bvA n), hv, .slice a q cap] w fun e w' => e = .returned (.tuple #[.slice none 0 0, .int .i64 60]) ∧ Below w.heap.size w w' := by
  have HKN := Lib.hid (KN.start w k n)
  rcases hq with hq | hq
  · have f1 : decide ((q : Int) - 16 < 0) = true := decide_eq_true (by omega)
    have f0 : IntKind.i64.wrap ((q : Int) - 16) = (q : Int) - 16 := IntWalk.i64_in _ (by omega)
    go_enter Tryd.func18, Tryd.ntmps18
    go_wp2_with fail
    go_quiet (fail)
    go_wp2_with fail
    go_ret2
    exact ⟨rfl, below_dN HKN.out.below _⟩
  · have f1 : decide ((q : Int) - 16 < 0) = false := decide_eq_false (by omega)
    have f2 : decide ((65536 : Int) < (q : Int) - 16) = true := decide_eq_true (by omega)
    have f0 : IntKind.i64.wrap ((q : Int) - 16) = (q : Int) - 16 := IntWalk.i64_in _ (by omega)
    go_enter Tryd.func18, Tryd.ntmps18
    go_wp2_with fail
    go_quiet (fail)
    go_wp2_with fail
    go_ret2
    exact ⟨rfl, below_dN HKN.out.below _⟩

/-- What Open answers. -/
def OpenP (good : Bool) (x : List UInt8) (w : World) (e : Ending) (w' : World) : Prop := (match good with | true => ∃ v, e = .returned (.tuple #[v, .int .i64 0]) ∧ OwnB w.heap.size w' v x | false => e = .returned (.tuple #[.slice none 0 0, .int .i64 60])) ∧ Below w.heap.size w w'
theorem OpenP.bad {x : List UInt8} {w w' : World} (h : Below w.heap.size w w') : OpenP false x w (.returned (.tuple #[.slice none 0 0, .int .i64 60])) w' := ⟨rfl, h⟩
theorem OpenP.ok {x : List UInt8} {w w' : World} {v : Value} (ho : OwnB w.heap.size w' v x) (h : Below w.heap.size w w') : OpenP true x w (.returned (.tuple #[v, .int .i64 0])) w' := ⟨⟨v, rfl, ho⟩, h⟩

set_option maxRecDepth 100000 in
set_option maxHeartbeats 2000000 in
theorem Open_in (k n hd l : List UInt8) (s : Nat) (hk : k.length = 32) (hn : n.length = 12) (ah : Option Addr) (ch : Nat) (b o : Nat) (cap : Nat) (w : World) (hT : Tab w) (hh : RdV w (.slice ah hd.length ch) hd) (hl : RdB w.heap.size w (some ⟨b, o, none⟩) l) (hcap : l.length ≤ cap) (hc2 : cap ≤ maxLen) (hhl : hd.length ≤ 70368744100000) (hs : l.length = s + 16) (h16 : s ≤ 65536) :
    Calls Tryd.prog 18 #[.agg (bvA k), .agg (bvA n), .slice ah hd.length ch, .slice (some ⟨b, o, none⟩) (s + 16) cap] w (OpenP (tagged16 k n hd l) (cstream k n (l.take s)) w) := by
  have HSK := Lib.hid (key_sizeL k hk)
  have HSN := Lib.hid (nonce_sizeL n hn)
  have HKN := Lib.hid (KN.start w k n)
  have HT := Lib.hid hT
  have hcs : s ≤ cap := by omega
  have HL1 : Hid (RdV w (.slice (some ⟨b, o, none⟩) s cap) (l.take s)) := Lib.hid ⟨_, _, by rw [List.length_take, hs, Nat.min_eq_left (by omega)], hl.take s, by rw [List.length_take]; omega, hc2, fun e => by cases e⟩
  have HL2 : Hid (RdV w (.slice (some ⟨b, o + s, none⟩) 16 (cap - s)) (l.drop s)) := Lib.hid ⟨_, _, by rw [List.length_drop, hs, Nat.add_sub_cancel_left], hl.drop s, by rw [List.length_drop]; omega, by omega, fun e => by cases e⟩
  have HTL1 : Hid ((l.take s).length = s) := Lib.hid (by rw [List.length_take, hs, Nat.min_eq_left (by omega)])
  have HTG : Hid (tagged16 k n hd l = (tagC k n hd (l.take s) == l.drop s)) := Lib.hid (by
    unfold tagged16; rw [hs, Nat.add_sub_cancel]; rw [Bool.eq_iff_iff, beq_iff_eq, beq_iff_eq]; exact ⟨fun h => h.symm, fun h => h.symm⟩)
  have HG : Hid (∀ W, Below w.heap.size w W → Calls Tryd.prog 25 #[.agg (bvA k), .agg (bvA n), .slice ah hd.length ch, .slice (some ⟨b, o, none⟩) s cap] W fun e w' => ∃ v', e = .returned v' ∧ RdV w' v' (tagC k n hd (l.take s)) ∧ Below W.heap.size W w') :=
    Lib.hid (fun W hW => tag_any k n hd _ hk hn ah ch _ W (hT.below hW hT.lt) (hh.call hW) (HL1.out.call hW) hhl (by rw [HTL1.out]; omega))
  have HS : Hid (∀ W, Below w.heap.size w W → w.heap.size ≤ W.heap.size → Calls Tryd.prog 14 #[.agg (bvA k), .agg (bvA n), .slice (some ⟨b, o, none⟩) s cap] W fun e w' => ∃ v, e = .returned (.tuple #[v, .int .i64 0]) ∧ OwnB w.heap.size w' v (cstream k n (l.take s)) ∧ Below W.heap.size W w') :=
    Lib.hid (fun W hW hz => by
      have h := Stream_ok k n (l.take s) hk hn (some ⟨b, o, none⟩) cap W (((hl.take s).below hW).mono hW.size) (by rw [HTL1.out]; exact hcs) hc2 (by rw [HTL1.out]; exact h16)
      rw [HTL1.out] at h
      exact h.mono fun e w' ⟨v, h1, h2, h3⟩ => ⟨v, h1, h2.mono hz, h3⟩)
  have f1 : decide ((s : Int) < 0) = false := decide_eq_false (by omega)
  have f2 : decide ((65536 : Int) < (s : Int)) = false := decide_eq_false (by omega)
  have f0 : IntKind.i64.wrap (((s + 16 : Nat) : Int) - 16) = (s : Int) := by rw [IntWalk.i64_in _ (by omega)]; omega
  have i0 : (0 : Int) ≤ (s : Int) := by omega
  have i1 : (s : Int) ≤ (cap : Int) := by omega
  have i2 : s + 16 ≤ cap := by omega
  have i3 : (s : Int) ≤ (s : Int) + 16 := by omega
  have i4 : s + 16 - s = 16 := by omega
  have i5 : ¬ cap = s := by omega
  obtain ⟨X, hX⟩ : ∃ X, l.take s = X := ⟨_, rfl⟩
  obtain ⟨Y, hY⟩ : ∃ Y, l.drop s = Y := ⟨_, rfl⟩
  rw [hX] at HL1 HTL1 HTG HG HS
  rw [hY] at HL2 HTG
  rw [hX, HTG.out]
  generalize hd.length = p at *
  obtain ⟨t, ht⟩ : ∃ t, tagC k n hd X = t := ⟨_, rfl⟩
  rw [ht] at HG ⊢
  clear hk hn hl hh hT hX hY hs HTG HTL1 ht
  obtain ⟨w1, hw1⟩ : ∃ w1, w1 = (w.alloc (.cells (bvA k) 23)).alloc (.cells (bvA n) 25) := ⟨_, rfl⟩
  rw [← hw1] at HKN
  have HW1 := Lib.hid hw1
  clear hw1
  go_enter Tryd.func18, Tryd.ntmps18
  go_wp2_with fail
  rw [← HW1.out]
  clear HW1
  have HSB : Hid (∀ W, Below w1.heap.size w1 W → KN w k n W) := Lib.hid (fun W hW => HKN.out.call hW)
  have HB0 : Hid (Below w1.heap.size w1 w1.drew) := (Below.refl _ _).drew
  refine wp_region_held_drew (S := fun W => KN w k n W) (by kernel_rfl) (HSB.out _ HB0.out) (fun hHeld => ?_)
  refine wpAnyH_take (i := 0) (v := .int .i64 s) rfl (by kernel_rfl) (by kernel_rfl) (by kernel_rfl) (fun _ _ _ h => h) (Or.inl ⟨by rfl, fun w _ => by go_simp⟩) hHeld ?_
  simp only [Act.put, List.getElem_toArray, List.getElem_cons_zero, List.getElem_cons_succ, List.setIfInBounds_toArray, List.set_cons_zero, List.set_cons_succ]
  refine wpAnyH_take (i := 1) (v := .bool false) rfl (by kernel_rfl) (by kernel_rfl) (by kernel_rfl) (fun _ _ _ h => h) (Or.inl ⟨by rfl, fun w _ => by go_simp⟩) hHeld ?_
  simp only [Act.put, List.getElem_toArray, List.getElem_cons_zero, List.getElem_cons_succ, List.setIfInBounds_toArray, List.set_cons_zero, List.set_cons_succ]
  refine wpAnyH_take (i := 2) (v := .bool false) rfl (by kernel_rfl) (by kernel_rfl) (by kernel_rfl) (fun _ _ _ h => h) (Or.inl ⟨by rfl, fun w _ => by go_simp⟩) hHeld ?_
  simp only [Act.put, List.getElem_toArray, List.getElem_cons_zero, List.getElem_cons_succ, List.setIfInBounds_toArray, List.set_cons_zero, List.set_cons_succ]
  refine wpAnyH_take (i := 3) (v := .int .i64 s) rfl (by kernel_rfl) (by kernel_rfl) (by kernel_rfl) (fun _ _ _ h => h) (Or.inl ⟨by rfl, fun w _ => by go_simp⟩) hHeld ?_
  simp only [Act.put, List.getElem_toArray, List.getElem_cons_zero, List.getElem_cons_succ, List.setIfInBounds_toArray, List.set_cons_zero, List.set_cons_succ]
  refine wpAnyH_take (i := 4) (v := .bool false) rfl (by kernel_rfl) (by kernel_rfl) (by kernel_rfl) (fun _ _ _ h => h) (Or.inl ⟨by rfl, fun w _ => by go_simp⟩) hHeld ?_
  simp only [Act.put, List.getElem_toArray, List.getElem_cons_zero, List.getElem_cons_succ, List.setIfInBounds_toArray, List.set_cons_zero, List.set_cons_succ]
  refine wpAnyH_take (i := 5) (v := .bool false) rfl (by kernel_rfl) (by kernel_rfl) (by kernel_rfl) (fun _ _ _ h => h) (Or.inl ⟨by rfl, fun w _ => by go_simp⟩) hHeld ?_
  simp only [Act.put, List.getElem_toArray, List.getElem_cons_zero, List.getElem_cons_succ, List.setIfInBounds_toArray, List.set_cons_zero, List.set_cons_succ]
  refine wpAnyH_take (i := 6) (v := .bool false) rfl (by kernel_rfl) (by kernel_rfl) (by kernel_rfl) (fun _ _ _ h => h) (Or.inl ⟨by rfl, fun w _ => by go_simp⟩) hHeld ?_
  simp only [Act.put, List.getElem_toArray, List.getElem_cons_zero, List.getElem_cons_succ, List.setIfInBounds_toArray, List.set_cons_zero, List.set_cons_succ]
  refine wpAnyH_take (i := 7) (v := .agg (bvA k)) rfl (by kernel_rfl) (by kernel_rfl) (by kernel_rfl) (fun _ _ _ h => h) (yieldsIf_load_mid (by rfl) 23 (.tmp 4) rfl w.heap.size 0 rfl (k.map bv) _ (fun _ h => h.key.range) Tryd.underlying23 rfl HSK.out) hHeld ?_
  simp only [Act.put, List.getElem_toArray, List.getElem_cons_zero, List.getElem_cons_succ, List.setIfInBounds_toArray, List.set_cons_zero, List.set_cons_succ]
  refine wpAnyH_take (i := 8) (v := .agg (bvA n)) rfl (by kernel_rfl) (by kernel_rfl) (by kernel_rfl) (fun _ _ _ h => h) (yieldsIf_load_mid (by rfl) 25 (.tmp 5) rfl (w.heap.size + 1) 0 rfl (n.map bv) _ (fun _ h => h.nonce.range) Tryd.underlying25 rfl HSN.out) hHeld ?_
  simp only [Act.put, List.getElem_toArray, List.getElem_cons_zero, List.getElem_cons_succ, List.setIfInBounds_toArray, List.set_cons_zero, List.set_cons_succ]
  refine wpAnyH_take (i := 9) (v := .slice ah p ch) rfl (by kernel_rfl) (by kernel_rfl) (by kernel_rfl) (fun _ _ _ h => h) (Or.inl ⟨by rfl, fun w _ => by go_simp⟩) hHeld ?_
  simp only [Act.put, List.getElem_toArray, List.getElem_cons_zero, List.getElem_cons_succ, List.setIfInBounds_toArray, List.set_cons_zero, List.set_cons_succ]
  refine wpAnyH_take (i := 10) (v := .slice (some ⟨b, o, none⟩) (s + 16) cap) rfl (by kernel_rfl) (by kernel_rfl) (by kernel_rfl) (fun _ _ _ h => h) (Or.inl ⟨by rfl, fun w _ => by go_simp⟩) hHeld ?_
  simp only [Act.put, List.getElem_toArray, List.getElem_cons_zero, List.getElem_cons_succ, List.setIfInBounds_toArray, List.set_cons_zero, List.set_cons_succ]
  refine wpAnyH_take (i := 11) (v := .int .i64 s) rfl (by kernel_rfl) (by kernel_rfl) (by kernel_rfl) (fun _ _ _ h => h) (Or.inl ⟨by rfl, fun w _ => by go_simp⟩) hHeld ?_
  simp only [Act.put, List.getElem_toArray, List.getElem_cons_zero, List.getElem_cons_succ, List.setIfInBounds_toArray, List.set_cons_zero, List.set_cons_succ]
  refine wpAnyH_take (i := 12) (v := .slice (some ⟨b, o, none⟩) s cap) rfl (by kernel_rfl) (by kernel_rfl) (by kernel_rfl) (fun _ _ _ h => h) (Or.inl ⟨by rfl, fun w _ => by go_simp⟩) hHeld ?_
  simp only [Act.put, List.getElem_toArray, List.getElem_cons_zero, List.getElem_cons_succ, List.setIfInBounds_toArray, List.set_cons_zero, List.set_cons_succ]
  refine wpAnyH_take (i := 14) (v := .slice (some ⟨b, o, none⟩) (s + 16) cap) rfl (by kernel_rfl) (by kernel_rfl) (by kernel_rfl) (fun _ _ _ h => h) (Or.inl ⟨by rfl, fun w _ => by go_simp⟩) hHeld ?_
  simp only [Act.put, List.getElem_toArray, List.getElem_cons_zero, List.getElem_cons_succ, List.setIfInBounds_toArray, List.set_cons_zero, List.set_cons_succ]
  refine wpAnyH_take (i := 15) (v := .int .i64 s) rfl (by kernel_rfl) (by kernel_rfl) (by kernel_rfl) (fun _ _ _ h => h) (Or.inl ⟨by rfl, fun w _ => by go_simp⟩) hHeld ?_
  simp only [Act.put, List.getElem_toArray, List.getElem_cons_zero, List.getElem_cons_succ, List.setIfInBounds_toArray, List.set_cons_zero, List.set_cons_succ]
  refine wpAnyH_take (i := 16) (v := .slice (some ⟨b, o + s, none⟩) 16 (cap - s)) rfl (by kernel_rfl) (by kernel_rfl) (by kernel_rfl) (fun _ _ _ h => h) (Or.inl ⟨by rfl, fun w _ => by go_simp⟩) hHeld ?_
  simp only [Act.put, List.getElem_toArray, List.getElem_cons_zero, List.getElem_cons_succ, List.setIfInBounds_toArray, List.set_cons_zero, List.set_cons_succ]
  refine wpAnyH_ready (rs := [13]) (by kernel_rfl) (by simp) (AllReadyH.cons rfl (fun K hK => ?_) AllReadyH.nil)
  go_simp
  refine (HG.out _ (HKN.out.below.trans (HB0.out.mono HKN.out.below.size))).mono ?_
  rintro e w2 ⟨v2, rfl, hr2, hb2⟩
  obtain ⟨a2, c2, rfl, hr3⟩ := hr2.form
  have HR2 := Lib.hid hr2
  have HE2 := Lib.hid (HB0.out.trans (hb2.mono HB0.out.size))
  clear hr2 hr3 hb2
  try go_wp2_with fail
  refine hK.out _ _ (HSB.out _ HE2.out) (fun hHeld => ?_)
  clear hK K
  try simp only [Act.put, List.getElem_toArray, List.getElem_cons_zero, List.getElem_cons_succ, List.setIfInBounds_toArray, List.set_cons_zero, List.set_cons_succ]
  refine wpAnyH_ready (rs := [17]) (by kernel_rfl) (by simp) (AllReadyH.cons rfl (fun K hK => ?_) AllReadyH.nil)
  go_simp
  refine (equal_any _ _ _ _ _ _ t Y w2 HR2.out (HL2.out.call (HKN.out.below.trans (HE2.out.mono HKN.out.below.size)))).mono ?_
  rintro e w3 ⟨rfl, rfl⟩
  try go_wp2_with fail
  refine hK.out _ _ (HSB.out _ HE2.out) (fun hHeld => ?_)
  clear hK K
  try simp only [Act.put, List.getElem_toArray, List.getElem_cons_zero, List.getElem_cons_succ, List.setIfInBounds_toArray, List.set_cons_zero, List.set_cons_succ]
  generalize (t == Y) = bb at *
  refine wpAnyH_take (i := 18) (v := .bool (!bb)) rfl (by kernel_rfl) (by kernel_rfl) (by kernel_rfl) (fun _ _ _ h => h) (Or.inl ⟨by rfl, fun w _ => by go_simp⟩) hHeld ?_
  simp only [Act.put, List.getElem_toArray, List.getElem_cons_zero, List.getElem_cons_succ, List.setIfInBounds_toArray, List.set_cons_zero, List.set_cons_succ]
  refine wpAnyH_take (i := 19) (v := .bool (!bb)) rfl (by kernel_rfl) (by kernel_rfl) (by kernel_rfl) (fun _ _ _ h => h) (Or.inl ⟨by rfl, fun w _ => by go_simp⟩) hHeld ?_
  simp only [Act.put, List.getElem_toArray, List.getElem_cons_zero, List.getElem_cons_succ, List.setIfInBounds_toArray, List.set_cons_zero, List.set_cons_succ]
  refine wpAnyH_done (by kernel_rfl) ?_ _
  have HKW := Lib.hid (HSB.out _ HE2.out)
  clear hHeld HR2 HE2 HB0 HSB HKN HL2 HG
  cases bb
  · simp only [Bool.not_false]
    go_wp2_with fail
    go_ret2
    exact OpenP.bad HKW.out.below
  · simp only [Bool.not_true]
    go_wp2_with fail
    have HSB : Hid (∀ W, Below w3.heap.size w3 W → KN w k n W) := Lib.hid (fun W hW => HKW.out.call hW)
    have HB0 : Hid (Below w3.heap.size w3 w3.drew) := (Below.refl _ _).drew
    refine wp_region_held_drew (S := fun W => KN w k n W) (by kernel_rfl) (HSB.out _ HB0.out) (fun hHeld => ?_)
    refine wpAnyH_take (i := 0) (v := .agg (bvA k)) rfl (by kernel_rfl) (by kernel_rfl) (by kernel_rfl) (fun _ _ _ h => h) (yieldsIf_load_mid (by rfl) 23 (.tmp 4) rfl w.heap.size 0 rfl (k.map bv) _ (fun _ h => h.key.range) Tryd.underlying23 rfl HSK.out) hHeld ?_
    simp only [Act.put, List.getElem_toArray, List.getElem_cons_zero, List.getElem_cons_succ, List.setIfInBounds_toArray, List.set_cons_zero, List.set_cons_succ]
    refine wpAnyH_take (i := 1) (v := .agg (bvA n)) rfl (by kernel_rfl) (by kernel_rfl) (by kernel_rfl) (fun _ _ _ h => h) (yieldsIf_load_mid (by rfl) 25 (.tmp 5) rfl (w.heap.size + 1) 0 rfl (n.map bv) _ (fun _ h => h.nonce.range) Tryd.underlying25 rfl HSN.out) hHeld ?_
    simp only [Act.put, List.getElem_toArray, List.getElem_cons_zero, List.getElem_cons_succ, List.setIfInBounds_toArray, List.set_cons_zero, List.set_cons_succ]
    refine wpAnyH_take (i := 2) (v := .slice (some ⟨b, o, none⟩) (s + 16) cap) rfl (by kernel_rfl) (by kernel_rfl) (by kernel_rfl) (fun _ _ _ h => h) (Or.inl ⟨by rfl, fun w _ => by go_simp⟩) hHeld ?_
    simp only [Act.put, List.getElem_toArray, List.getElem_cons_zero, List.getElem_cons_succ, List.setIfInBounds_toArray, List.set_cons_zero, List.set_cons_succ]
    refine wpAnyH_take (i := 3) (v := .int .i64 s) rfl (by kernel_rfl) (by kernel_rfl) (by kernel_rfl) (fun _ _ _ h => h) (Or.inl ⟨by rfl, fun w _ => by go_simp⟩) hHeld ?_
    simp only [Act.put, List.getElem_toArray, List.getElem_cons_zero, List.getElem_cons_succ, List.setIfInBounds_toArray, List.set_cons_zero, List.set_cons_succ]
    refine wpAnyH_take (i := 4) (v := .slice (some ⟨b, o, none⟩) s cap) rfl (by kernel_rfl) (by kernel_rfl) (by kernel_rfl) (fun _ _ _ h => h) (Or.inl ⟨by rfl, fun w _ => by go_simp⟩) hHeld ?_
    simp only [Act.put, List.getElem_toArray, List.getElem_cons_zero, List.getElem_cons_succ, List.setIfInBounds_toArray, List.set_cons_zero, List.set_cons_succ]
    refine wpAnyH_ready (rs := [5]) (by kernel_rfl) (by simp) (AllReadyH.cons rfl (fun K hK => ?_) AllReadyH.nil)
    go_simp
    refine (HS.out _ (HKW.out.below.trans (HB0.out.mono HKW.out.below.size)) (HKW.out.below.trans (HB0.out.mono HKW.out.below.size)).size).mono ?_
    rintro e w4 ⟨v4, rfl, ho4, hb4⟩
    obtain ⟨a4, c4, rfl, -, -⟩ := ho4.form
    have HO4 := Lib.hid ho4
    have HE4 := Lib.hid (HB0.out.trans (hb4.mono HB0.out.size))
    clear ho4 hb4
    try go_wp2_with fail
    refine hK.out _ _ (HSB.out _ HE4.out) (fun hHeld => ?_)
    clear hK K
    try simp only [Act.put, List.getElem_toArray, List.getElem_cons_zero, List.getElem_cons_succ, List.setIfInBounds_toArray, List.set_cons_zero, List.set_cons_succ]
    generalize cstream k n X = Z at *
    refine wpAnyH_take (i := 6) (v := .slice a4 Z.length c4) rfl (by kernel_rfl) (by kernel_rfl) (by kernel_rfl) (fun _ _ _ h => h) (Or.inl ⟨by rfl, fun w _ => by go_simp⟩) hHeld ?_
    simp only [Act.put, List.getElem_toArray, List.getElem_cons_zero, List.getElem_cons_succ, List.setIfInBounds_toArray, List.set_cons_zero, List.set_cons_succ]
    refine wpAnyH_take (i := 7) (v := .int .i64 0) rfl (by kernel_rfl) (by kernel_rfl) (by kernel_rfl) (fun _ _ _ h => h) (Or.inl ⟨by rfl, fun w _ => by go_simp⟩) hHeld ?_
    simp only [Act.put, List.getElem_toArray, List.getElem_cons_zero, List.getElem_cons_succ, List.setIfInBounds_toArray, List.set_cons_zero, List.set_cons_succ]
    refine wpAnyH_take (i := 8) (v := .slice a4 Z.length c4) rfl (by kernel_rfl) (by kernel_rfl) (by kernel_rfl) (fun _ _ _ h => h) (Or.inl ⟨by rfl, fun w _ => by go_simp⟩) hHeld ?_
    simp only [Act.put, List.getElem_toArray, List.getElem_cons_zero, List.getElem_cons_succ, List.setIfInBounds_toArray, List.set_cons_zero, List.set_cons_succ]
    refine wpAnyH_take (i := 9) (v := .int .i64 0) rfl (by kernel_rfl) (by kernel_rfl) (by kernel_rfl) (fun _ _ _ h => h) (Or.inl ⟨by rfl, fun w _ => by go_simp⟩) hHeld ?_
    simp only [Act.put, List.getElem_toArray, List.getElem_cons_zero, List.getElem_cons_succ, List.setIfInBounds_toArray, List.set_cons_zero, List.set_cons_succ]
    refine wpAnyH_done (by kernel_rfl) ?_ _
    go_wp2_with fail
    go_ret2
    exact OpenP.ok HO4.out (HKW.out.below.trans (HE4.out.mono HKW.out.below.size))
end Go.Proofs.YtcibbghggfklbaaDoor
