/-
  The walk of chartroomlaw02.DigestChains.
-/
import Derived.Test.YtndbhmipehpebaaDoorRnd
import Derived.Test.YtndbhmipehpebaaDoorOdg
namespace Go.Proofs.YtndbhmipehpebaaDoor
open Go.RowKit
set_option linter.unusedVariables false
set_option linter.unusedSimpArgs false

theorem OwnD.grown {B : Nat} {w w' : World} {v : Value} {l : List (List UInt8)} (h : OwnD B w v l) {r : Option Nat} (hg : w.grownBy w' r) (hne : ∀ k, v.ownBlock = some k → r ≠ some k) : OwnD B w' v l := by
  refine ⟨h.1, h.2.1, ?_⟩
  rcases h.2.2 with h2 | ⟨g, cap, cur, hv, hg2, hh, r2⟩
  · exact .inl h2
  · exact .inr ⟨g, cap, cur, hv, hg2, by rw [hg.block g (Array.getElem?_eq_some_iff.1 hh).1 (Ne.symm (hne g (by rw [hv]; rfl)))]; exact hh, r2⟩

theorem wp_appBn {o : Oper} {a : Act} {w : World} {K : Act → World → Prop} {Q : Exit → Act → World → Prop} (s x : Operand)
    (ho : o.op = .call { callee := .builtin .append, args := #[s, x], argTypes := #[22, 22] })
    (B : Nat) (v : Value) (l l' : List UInt8) (n : Nat) (ad : Option Addr) (cap : Nat) (hs : a.eval s = v) (hx : a.eval x = .slice ad n cap) (hn : n = l'.length) (hown : OwnB B w v l) (hr : RdB w.heap.size w ad l') (hnil : ad = none → cap = 0)
    (hlen : l.length + l'.length ≤ 140737488355328) (hB : B ≤ w.heap.size)
    (h : ∀ v' w', OwnB B w' v' (l ++ l') → Grew w v w' v' → K (a.put o.dst v') w') : o.wp Tryd.prog a w K Q := by
  subst hn
  exact wp_appB s x ho B v l l' ad cap hs hown hx hr hnil hlen hB h

/-- The four boxes of a round, the list, and all before. -/
def ChSt (w W0 W : World) (v : Value) (D : List (List UInt8)) (g5 g6 g8 g9 : Nat) (X5 X6 X8 X9 : List UInt8) : Prop :=
  BB W g5 26 X5 ∧ BB W g6 26 X6 ∧ BB W g8 26 X8 ∧ BB W g9 26 X9 ∧ OwnD W0.heap.size W v D ∧ Below w.heap.size w W ∧
  (w.heap.size ≤ g5 ∧ w.heap.size ≤ g6 ∧ g5 < W0.heap.size ∧ g6 < W0.heap.size ∧ g5 ≠ g6 ∧ g5 ≠ g8 ∧ g5 ≠ g9 ∧ g6 ≠ g8 ∧ g6 ≠ g9)
theorem ChSt.below {w W0 W W' : World} {v : Value} {D : List (List UInt8)} {g5 g6 g8 g9 : Nat} {X5 X6 X8 X9 : List UInt8} (h : ChSt w W0 W v D g5 g6 g8 g9 X5 X6 X8 X9) (hb : Below W.heap.size W W') : ChSt w W0 W' v D g5 g6 g8 g9 X5 X6 X8 X9 := by
  obtain ⟨h5, h6, h8, h9, ho, hB, hr⟩ := h
  exact ⟨h5.below hb h5.lt, h6.below hb h6.lt, h8.below hb h8.lt, h9.below hb h9.lt, ho.below hb, hB.trans (hb.mono hB.size), hr⟩
theorem ChSt.put5 {w W0 W W' : World} {v : Value} {D : List (List UInt8)} {g5 g6 g8 g9 : Nat} {X5 X6 X8 X9 Y : List UInt8} (h : ChSt w W0 W v D g5 g6 g8 g9 X5 X6 X8 X9) (hn : W'.heap[g5]? = some (.cells (bvA Y) 26 (0, 0))) (hg : W.grownBy W' (some g5)) : ChSt w W0 W' v D g5 g6 g8 g9 Y X6 X8 X9 := by
  obtain ⟨h5, h6, h8, h9, ho, hB, hr⟩ := h
  obtain ⟨r1, r2, r3, r4, r5, r6, r7, r8, r9⟩ := hr
  exact ⟨hn, h6.grown hg (Ne.symm r5), h8.grown hg (Ne.symm r6), h9.grown hg (Ne.symm r7), ho.grown hg (fun k hk e => by injection e with e; have := ho.base k hk; omega), grown_below hB hg r1 hB.size, r1, r2, r3, r4, r5, r6, r7, r8, r9⟩
theorem ChSt.put6 {w W0 W W' : World} {v : Value} {D : List (List UInt8)} {g5 g6 g8 g9 : Nat} {X5 X6 X8 X9 Y : List UInt8} (h : ChSt w W0 W v D g5 g6 g8 g9 X5 X6 X8 X9) (hn : W'.heap[g6]? = some (.cells (bvA Y) 26 (0, 0))) (hg : W.grownBy W' (some g6)) : ChSt w W0 W' v D g5 g6 g8 g9 X5 Y X8 X9 := by
  obtain ⟨h5, h6, h8, h9, ho, hB, hr⟩ := h
  obtain ⟨r1, r2, r3, r4, r5, r6, r7, r8, r9⟩ := hr
  exact ⟨h5.grown hg r5, hn, h8.grown hg (Ne.symm r8), h9.grown hg (Ne.symm r9), ho.grown hg (fun k hk e => by injection e with e; have := ho.base k hk; omega), grown_below hB hg r2 hB.size, r1, r2, r3, r4, r5, r6, r7, r8, r9⟩

set_option maxRecDepth 100000 in
set_option maxHeartbeats 3200000 in
theorem chains_walk (d0 : List UInt8) (hd0 : d0.length = 32) (a : Option Addr) (cap : Nat) (l : List UInt8) (w : World) (hT : Tab w) (hl : RdB w.heap.size w a l) (hcap : l.length ≤ cap) (hc2 : cap ≤ maxLen) :
    Calls Tryd.prog 10 #[.agg (bvA d0), .slice a l.length cap] w fun e w' => e = .returned (.bool true) ∧ Below w.heap.size w w' := by
  have HT := Lib.hid hT
  have HL := Lib.hid hl
  have HC2 := Lib.hid hc2
  have HD0 := Lib.hid hd0
  have hlt := HT.out.lt
  clear hT hl hd0
  unfold maxLen at hc2
  go_enter Tryd.func10, Tryd.ntmps10
  go_wp2_with fail
  change Calls _ _ _ (w.alloc (.cells (bvA d0) 26)) _
  obtain ⟨w1, hw1⟩ : ∃ w1, w1 = w.alloc (.cells (bvA d0) 26) := ⟨_, rfl⟩
  have hB1 : Below w.heap.size w w1 := hw1 ▸ (Below.refl _ _).alloc (Nat.le_refl _) _
  have hA1 : BB w1 w.heap.size 26 d0 := hw1 ▸ BB.new w _ _
  rw [← hw1]
  clear hw1
  refine (sane_any w1 (HT.out.below hB1 hlt)).mono ?_
  rintro e w2 ⟨rfl, hb2⟩
  have HB2 := Lib.hid (hB1.trans (hb2.mono hB1.size))
  have HA2 := Lib.hid (hA1.below hb2 hA1.lt)
  clear hb2 hB1 hA1
  have HI0 : Hid ((Tryd.prog.info? 26).map (·.size) = some (d0.map bv).length) := by show _ = _; rw [List.length_map, HD0.out]; exact sha_size
  have HS0 : Hid ((Tryd.prog.info? 26).map (·.size) = some (bvA d0).size) := by show _ = _; rw [bvA_size, HD0.out]; exact sha_size
  have HO0 : Hid ((bvA (List.replicate 32 0)).size = (bvA d0).size) := by show _ = _; rw [bvA_size, bvA_size, HD0.out, List.length_replicate]
  go_wp2_with fail
  rename_i K0 hK0
  refine region_mid (fun a' W => ∃ (g5 g6 : Nat) (q2 q3 q7 q8 q9 q10 q11 q12 q13 q14 q15 q16 q17 q18 q19 q20 q21 q22 q23 q24 q25 q26 q27 q28 q29 q30 q31 q32 q33 q34 q35 q36 q37 q38 q39 q40 q41 : Value), a' = ⟨#[.agg (bvA d0), .slice a l.length cap, q2, q3, .bool false, .pointer (some ⟨g5, 0, none⟩), .pointer (some ⟨g6, 0, none⟩), q7, q8, q9, q10, q11, q12, q13, q14, q15, q16, q17, q18, q19, q20, q21, q22, q23, q24, q25, q26, q27, q28, q29, q30, q31, q32, q33, q34, q35, q36, q37, q38, q39, q40, q41], []⟩ ∧ BB W g5 26 d0 ∧ BB W g6 26 d0 ∧ g5 ≠ g6 ∧ w.heap.size ≤ g5 ∧ w.heap.size ≤ g6 ∧ Below w.heap.size w W) ?_ ?_
  rotate_left
  · clear hK0 K0
    have HSX : Hid (∀ W, Below w2.heap.size w2 W → W.rangeAt w.heap.size 0 (d0.map bv)) := fun W hW => (HA2.out.below hW HA2.out.lt).range
    have HBa := Lib.hid ((Below.refl w2.heap.size w2).drew)
    refine wp_region_held_drew (S := fun w' => w'.rangeAt w.heap.size 0 (d0.map bv)) (by kernel_rfl) (HSX.out _ HBa.out) (fun hHeld => ?_)
    refine wpAnyH_take (i := 0) (v := .agg (bvA d0)) rfl (by kernel_rfl) (by kernel_rfl) (by kernel_rfl) (fun _ _ _ h => nomatch h.1) (yieldsIf_load_mid (by rfl) 26 (.tmp 2) rfl w.heap.size 0 rfl (d0.map bv) _ (fun _ h => h) digest_und rfl HI0.out) hHeld ?_
    simp only [Act.put, List.getElem_toArray, List.getElem_cons_zero, List.getElem_cons_succ, List.setIfInBounds_toArray, List.set_cons_zero, List.set_cons_succ]
    refine wpAnyH_take (i := 1) (v := .agg (bvA d0)) rfl (by kernel_rfl) (by kernel_rfl) (by kernel_rfl) (fun _ _ _ h => nomatch h.1) (yieldsIf_load_mid (by rfl) 26 (.tmp 2) rfl w.heap.size 0 rfl (d0.map bv) _ (fun _ h => h) digest_und rfl HI0.out) hHeld ?_
    simp only [Act.put, List.getElem_toArray, List.getElem_cons_zero, List.getElem_cons_succ, List.setIfInBounds_toArray, List.set_cons_zero, List.set_cons_succ]
    refine wpAnyH_ready (rs := [2, 3]) (by kernel_rfl) (by simp) ?_
    refine AllReadyH.cons rfl (fun K hK => ?_) ?_
    · rw [if_pos (by rfl)]
      refine wp_allocA rfl ?_
      intro w3 g5 hn hge hb
      have HBb := Lib.hid (HBa.out.trans (hb.mono HBa.out.size))
      have HN1 := Lib.hid hn
      have HQ1 := Lib.hid (Nat.le_trans HBa.out.size hge)
      have HG1 := Lib.hid (Nat.le_trans HB2.out.size HQ1.out)
      clear hn hge hb
      refine hK.out _ _ (HSX.out _ HBb.out) (fun hHeld => ?_)
      clear hK K
      try simp only [Act.put, List.getElem_toArray, List.getElem_cons_zero, List.getElem_cons_succ, List.setIfInBounds_toArray, List.set_cons_zero, List.set_cons_succ]
      refine wpAnyH_ready (rs := [3]) (by kernel_rfl) (by simp) (AllReadyH.cons rfl (fun K hK => ?_) AllReadyH.nil)
      rw [if_pos (by rfl)]
      refine wp_allocA rfl ?_
      intro w4 g6 hn hge hb
      have HBc := Lib.hid (HBb.out.trans (hb.mono HBb.out.size))
      have HN2 := Lib.hid hn
      have HQ2 := Lib.hid (Nat.le_trans HBb.out.size hge)
      have HG2 := Lib.hid (Nat.le_trans HB2.out.size HQ2.out)
      have HNE : Hid (g5 ≠ g6) := by show _ ≠ _; have := HN1.out.lt; omega
      have HN3 := Lib.hid (HN1.out.below hb HN1.out.lt)
      clear hn hge hb HN1
      refine hK.out _ _ (HSX.out _ HBc.out) (fun hHeld => ?_)
      clear hK K
      try simp only [Act.put, List.getElem_toArray, List.getElem_cons_zero, List.getElem_cons_succ, List.setIfInBounds_toArray, List.set_cons_zero, List.set_cons_succ]
      refine wpAnyH_ready (rs := [4]) (by kernel_rfl) (by simp) (AllReadyH.cons rfl (fun K hK => ?_) AllReadyH.nil)
      rw [if_pos (by rfl)]
      refine wp_storeA 26 (.tmp 5) (.tmp 12) rfl g5 (bvA d0) rfl rfl 26 _ HN3.out HS0.out HO0.out (bvA_one _) ?_
      intro w5 hn hg
      have HX5 : Hid (BB w5 g5 26 d0) := hn
      have HX6 := Lib.hid (HN2.out.grown hg (Ne.symm HNE.out))
      have HBd := Lib.hid (grown_below (HB2.out.trans (HBc.out.mono HB2.out.size)) hg HG1.out (Nat.le_trans HB2.out.size HBc.out.size))
      have HSd := Lib.hid (((HA2.out.below HBc.out HA2.out.lt).grown hg (by have := HA2.out.lt; have := HG1.out; have h9 := HQ1.out; omega)).range)
      have HSZ5 := Lib.hid hg.size
      clear hn hg
      refine hK.out _ _ HSd.out (fun hHeld => ?_)
      clear hK K
      try simp only [Act.put, List.getElem_toArray, List.getElem_cons_zero, List.getElem_cons_succ, List.setIfInBounds_toArray, List.set_cons_zero, List.set_cons_succ]
      refine wpAnyH_ready (rs := [5]) (by kernel_rfl) (by simp) (AllReadyH.cons rfl (fun K hK => ?_) AllReadyH.nil)
      rw [if_pos (by rfl)]
      refine wp_storeA 26 (.tmp 6) (.tmp 13) rfl g6 (bvA d0) rfl rfl 26 _ HX6.out HS0.out HO0.out (bvA_one _) ?_
      intro w6 hn hg
      have HY6 : Hid (BB w6 g6 26 d0) := hn
      have HY5 := Lib.hid (HX5.out.grown hg HNE.out)
      have HBe := Lib.hid (grown_below HBd.out hg HG2.out HBd.out.size)
      have HSe : Hid (w6.rangeAt w.heap.size 0 (d0.map bv)) := by
        show World.rangeAt _ _ _ _
        intro i v hv
        exact (World.cell?_of_block (hg.block w.heap.size (by have := HA2.out.lt; have h8 := HBc.out.size; have h7 := HSZ5.out; omega) (fun e => by injection e with e; have h9 := HQ2.out; have := HA2.out.lt; omega))).trans (HSd.out i v hv)
      clear hn hg
      refine hK.out _ _ HSe.out (fun hHeld => ?_)
      clear hK K
      try simp only [Act.put, List.getElem_toArray, List.getElem_cons_zero, List.getElem_cons_succ, List.setIfInBounds_toArray, List.set_cons_zero, List.set_cons_succ]
      refine wpAnyH_done (by kernel_rfl) ?_ _
      exact ⟨rfl, g5, g6, _, _, _, _, _, _, _, _, _, _, _, _, _, _, _, _, _, _, _, _, _, _, _, _, _, _, _, _, _, _, _, _, _, _, _, _, _, rfl, HY5.out, HY6.out, HNE.out, HG1.out, HG2.out, HBe.out⟩
    refine AllReadyH.cons rfl (fun K hK => ?_) ?_
    · rw [if_pos (by rfl)]
      refine wp_allocA rfl ?_
      intro w3 g6 hn hge hb
      have HBb := Lib.hid (HBa.out.trans (hb.mono HBa.out.size))
      have HN1 := Lib.hid hn
      have HQ1 := Lib.hid (Nat.le_trans HBa.out.size hge)
      have HG1 := Lib.hid (Nat.le_trans HB2.out.size HQ1.out)
      clear hn hge hb
      refine hK.out _ _ (HSX.out _ HBb.out) (fun hHeld => ?_)
      clear hK K
      try simp only [Act.put, List.getElem_toArray, List.getElem_cons_zero, List.getElem_cons_succ, List.setIfInBounds_toArray, List.set_cons_zero, List.set_cons_succ]
      refine wpAnyH_ready (rs := [2]) (by kernel_rfl) (by simp) (AllReadyH.cons rfl (fun K hK => ?_) AllReadyH.nil)
      rw [if_pos (by rfl)]
      refine wp_allocA rfl ?_
      intro w4 g5 hn hge hb
      have HBc := Lib.hid (HBb.out.trans (hb.mono HBb.out.size))
      have HN2 := Lib.hid hn
      have HQ2 := Lib.hid (Nat.le_trans HBb.out.size hge)
      have HG2 := Lib.hid (Nat.le_trans HB2.out.size HQ2.out)
      have HNE : Hid (g5 ≠ g6) := by show _ ≠ _; have := HN1.out.lt; omega
      have HN3 := Lib.hid (HN1.out.below hb HN1.out.lt)
      clear hn hge hb HN1
      refine hK.out _ _ (HSX.out _ HBc.out) (fun hHeld => ?_)
      clear hK K
      try simp only [Act.put, List.getElem_toArray, List.getElem_cons_zero, List.getElem_cons_succ, List.setIfInBounds_toArray, List.set_cons_zero, List.set_cons_succ]
      refine wpAnyH_ready (rs := [4]) (by kernel_rfl) (by simp) (AllReadyH.cons rfl (fun K hK => ?_) AllReadyH.nil)
      rw [if_pos (by rfl)]
      refine wp_storeA 26 (.tmp 5) (.tmp 12) rfl g5 (bvA d0) rfl rfl 26 _ HN2.out HS0.out HO0.out (bvA_one _) ?_
      intro w5 hn hg
      have HX5 : Hid (BB w5 g5 26 d0) := hn
      have HX6 := Lib.hid (HN3.out.grown hg (Ne.symm HNE.out))
      have HBd := Lib.hid (grown_below (HB2.out.trans (HBc.out.mono HB2.out.size)) hg HG2.out (Nat.le_trans HB2.out.size HBc.out.size))
      have HSd := Lib.hid (((HA2.out.below HBc.out HA2.out.lt).grown hg (by have := HA2.out.lt; have := HG2.out; have h9 := HQ2.out; omega)).range)
      have HSZ5 := Lib.hid hg.size
      clear hn hg
      refine hK.out _ _ HSd.out (fun hHeld => ?_)
      clear hK K
      try simp only [Act.put, List.getElem_toArray, List.getElem_cons_zero, List.getElem_cons_succ, List.setIfInBounds_toArray, List.set_cons_zero, List.set_cons_succ]
      refine wpAnyH_ready (rs := [5]) (by kernel_rfl) (by simp) (AllReadyH.cons rfl (fun K hK => ?_) AllReadyH.nil)
      rw [if_pos (by rfl)]
      refine wp_storeA 26 (.tmp 6) (.tmp 13) rfl g6 (bvA d0) rfl rfl 26 _ HX6.out HS0.out HO0.out (bvA_one _) ?_
      intro w6 hn hg
      have HY6 : Hid (BB w6 g6 26 d0) := hn
      have HY5 := Lib.hid (HX5.out.grown hg HNE.out)
      have HBe := Lib.hid (grown_below HBd.out hg HG1.out HBd.out.size)
      have HSe : Hid (w6.rangeAt w.heap.size 0 (d0.map bv)) := by
        show World.rangeAt _ _ _ _
        intro i v hv
        exact (World.cell?_of_block (hg.block w.heap.size (by have := HA2.out.lt; have h8 := HBc.out.size; have h7 := HSZ5.out; omega) (fun e => by injection e with e; have h9 := HQ1.out; have := HA2.out.lt; omega))).trans (HSd.out i v hv)
      clear hn hg
      refine hK.out _ _ HSe.out (fun hHeld => ?_)
      clear hK K
      try simp only [Act.put, List.getElem_toArray, List.getElem_cons_zero, List.getElem_cons_succ, List.setIfInBounds_toArray, List.set_cons_zero, List.set_cons_succ]
      refine wpAnyH_done (by kernel_rfl) ?_ _
      exact ⟨rfl, g5, g6, _, _, _, _, _, _, _, _, _, _, _, _, _, _, _, _, _, _, _, _, _, _, _, _, _, _, _, _, _, _, _, _, _, _, _, _, _, rfl, HY5.out, HY6.out, HNE.out, HG2.out, HG1.out, HBe.out⟩
    exact AllReadyH.nil
  rintro a' wa ⟨g5, g6, q2, q3, q7, q8, q9, q10, q11, q12, q13, q14, q15, q16, q17, q18, q19, q20, q21, q22, q23, q24, q25, q26, q27, q28, q29, q30, q31, q32, q33, q34, q35, q36, q37, q38, q39, q40, q41, rfl, hx5, hx6, hne, hg5, hg6, hba⟩
  refine hK0 _ _ ?_
  clear hK0 K0
  have HX5 := Lib.hid hx5
  have HX6 := Lib.hid hx6
  have HBa := Lib.hid hba
  clear hx5 hx6 hba HA2 HB2 HI0 HS0 HO0
  go_wp2_with fail
  refine (digestsOf_any a cap l wa ((HL.out.below HBa.out).mono HBa.out.size) hcap HC2.out).mono ?_
  rintro e wb ⟨vb, rfl, hob, hbb⟩
  have hD24 := digs_len l
  have HD32 := Lib.hid (digs_32 l)
  generalize digs l = D at *
  obtain ⟨av, cv, rfl, hf1, hf2, hf3, hf4⟩ := hob.form
  have HC3 := Lib.hid hf2
  have HOb := Lib.hid hob
  have HBb := Lib.hid (HBa.out.trans (hbb.mono HBa.out.size))
  have HY5 := Lib.hid (HX5.out.below hbb HX5.out.lt)
  have HY6 := Lib.hid (HX6.out.below hbb HX6.out.lt)
  have hl5 := HX5.out.lt
  have hl6 := HX6.out.lt
  clear hob hbb hf4 hf3 hf2 HX5 HX6
  go_wp2_with fail
  go_loopw [17] (fun i wr => ∃ (k : Nat) (E : List UInt8), k ≤ D.length ∧ i = .int .i64 k ∧ E.length = 32 ∧ BB wr g5 26 E ∧ BB wr g6 26 E ∧ OwnD wa.heap.size wr (.slice av D.length cv) D ∧ Below w.heap.size w wr) (fun i _ => D.length - (intOf i).toNat)
  case atStart => exact ⟨0, d0, by omega, rfl, HD0.out, HY5.out, HY6.out, HOb.out, HBb.out⟩
  case round =>
    clear HY5 HY6 HOb HBb
    obtain ⟨k, E, hk, rfl, hE, h5, h6, ho, hb⟩ := hrel
    have HO := Lib.hid ho
    have HB := Lib.hid hb
    have H5 := Lib.hid h5
    have H6 := Lib.hid h6
    have HE := Lib.hid hE
    clear h5 h6 ho hb hE
    by_cases hlt2 : k < D.length
    · obtain ⟨b, o, rfl, hbB, hcell⟩ := HO.out.rdOf.1.at_ (by omega)
      obtain ⟨d, hd⟩ : ∃ d, D[k] = d := ⟨_, rfl⟩
      have hrd := hcell k hlt2
      rw [hd] at hrd
      have hd32 : d.length = 32 := by rw [← hd]; exact HD32.out _ (List.getElem_mem hlt2)
      have HRD := Lib.hid hrd
      have HD := Lib.hid hd32
      have HI : Hid ((Tryd.prog.info? 26).map (·.size) = some (d.map bv).length) := by show _ = _; rw [List.length_map, hd32]; exact sha_size
      have HSd : Hid ((Tryd.prog.info? 26).map (·.size) = some (bvA d).size) := by show _ = _; rw [bvA_size, hd32]; exact sha_size
      have HOd : Hid ((bvA (List.replicate 32 0)).size = (bvA d).size) := by show _ = _; rw [bvA_size, bvA_size, hd32, List.length_replicate]
      have HIE : Hid ((Tryd.prog.info? 26).map (·.size) = some (E.map bv).length) := by show _ = _; rw [List.length_map, HE.out]; exact sha_size
      have HSE : Hid ((Tryd.prog.info? 26).map (·.size) = some (bvA E).size) := by show _ = _; rw [bvA_size, HE.out]; exact sha_size
      have HOE : Hid ((bvA (List.replicate 32 0)).size = (bvA E).size) := by show _ = _; rw [bvA_size, bvA_size, HE.out, List.length_replicate]
      have hat0 : (0 : Int) ≤ (k : Int) := by omega
      have hat1 : (k : Int) < (D.length : Int) := by omega
      clear hcell hrd hd hd32
      go_wp2_with (first | (refine wpList_load_mid rfl 26 (.tmp 19) rfl b (o + k * 32) rfl (d.map bv) _ HRD.out digest_und rfl HI.out ?_) | (refine wpList_storeA rfl 26 (.tmp 8) (.tmp 20) rfl wr.heap.size (bvA d) rfl rfl 26 (bvA (List.replicate 32 0)) (heap_alloc_new wr _) HSd.out HOd.out (bvA_one _) ?_))
      intro wc hc hgc
      have hBc : Below wr.heap.size wr wc := grown_below ((Below.refl _ _).alloc (Nat.le_refl _) _) hgc (Nat.le_refl _) (by simp)
      have H8c := Lib.hid (show BB wc wr.heap.size 26 d from hc)
      have H5c := Lib.hid (H5.out.below hBc H5.out.lt)
      have H6c := Lib.hid (H6.out.below hBc H6.out.lt)
      have HOc := Lib.hid (HO.out.below hBc)
      have HBc := Lib.hid (HB.out.trans (hBc.mono HB.out.size))
      clear hc hgc
      go_wp2_with (first | (refine wpList_load_mid rfl 26 (.tmp 5) rfl g5 0 rfl (E.map bv) _ H5c.out.range digest_und rfl HIE.out ?_) | (refine wpList_storeA rfl 26 (.tmp 9) (.tmp 21) rfl wc.heap.size (bvA E) rfl rfl 26 (bvA (List.replicate 32 0)) (heap_alloc_new wc _) HSE.out HOE.out (bvA_one _) ?_))
      intro wd hd hgd
      have hBd : Below wc.heap.size wc wd := grown_below ((Below.refl _ _).alloc (Nat.le_refl _) _) hgd (Nat.le_refl _) (by simp)
      have ST : Hid (ChSt w wa wd (.slice (some ⟨b, o, none⟩) D.length cv) D g5 g6 wr.heap.size wc.heap.size E E d E) :=
        ⟨H5c.out.below hBd H5c.out.lt, H6c.out.below hBd H6c.out.lt, H8c.out.below hBd H8c.out.lt, hd, HOc.out.below hBd, HBc.out.trans (hBd.mono HBc.out.size),
          hg5, hg6, hl5, hl6, hne, Nat.ne_of_lt H5.out.lt, Nat.ne_of_lt H5c.out.lt, Nat.ne_of_lt H6.out.lt, Nat.ne_of_lt H6c.out.lt⟩
      obtain ⟨g8, hg8⟩ : ∃ g8, g8 = wr.heap.size := ⟨_, rfl⟩
      obtain ⟨g9, hg9⟩ : ∃ g9, g9 = wc.heap.size := ⟨_, rfl⟩
      clear hd hgd hBd hBc H5 H6 HO HB H8c H5c H6c HOc HBc HRD HSd HOd HSE HOE
      go_wp2_with fail
      try rw [← hg8, ← hg9]
      rw [← hg8, ← hg9] at ST
      clear hg8 hg9 hbB
      obtain ⟨F, hF⟩ : ∃ F, F = chainS E d := ⟨_, rfl⟩
      have HF := Lib.hid hF
      have hF32 : F.length = 32 := by rw [hF]; exact tagS_len _ _
      have HF32 := Lib.hid hF32
      have HIF : Hid ((Tryd.prog.info? 26).map (·.size) = some (F.map bv).length) := by show _ = _; rw [List.length_map, hF32]; exact sha_size
      have HSF : Hid ((Tryd.prog.info? 26).map (·.size) = some (bvA F).size) := by show _ = _; rw [bvA_size, hF32]; exact sha_size
      have HOF : Hid ((bvA E).size = (bvA F).size) := by show _ = _; rw [bvA_size, bvA_size, hF32, HE.out]
      have c1 : Hid (∀ W, Below w.heap.size w W → Calls Tryd.prog 25 #[.agg (bvA E), .agg (bvA d)] W fun e w2 => e = .returned (.agg (bvA F)) ∧ Below W.heap.size W w2) := fun W hW => by rw [hF]; exact chain_any E d HE.out HD.out W (HT.out.below hW hlt)
      have c2 : Hid (∀ W, Calls Tryd.prog 26 #[.agg (bvA E), .agg (bvA d)] W fun e w2 => e = .returned (.agg (bvA F)) ∧ Below W.heap.size W w2) := fun W => by rw [hF]; exact refChain E d HE.out HD.out W
      clear hF hF32
      rename_i K1 hK1
      refine region_mid (fun a' W => ∃ (q4 q18 q19 q20 q21 q22 q23 q24 q25 q26 q27 q28 q29 q30 q31 q32 q33 q34 q35 q36 q37 q38 q39 q40 q41 : Value), a' = ⟨#[.agg (bvA d0), .slice a l.length cap, q2, q3, q4, .pointer (some ⟨g5, 0, none⟩), .pointer (some ⟨g6, 0, none⟩), q7, .pointer (some ⟨g8, 0, none⟩), .pointer (some ⟨g9, 0, none⟩), q10, q11, q12, q13, .slice a l.length cap, .slice (some ⟨b, o, none⟩) D.length cv, .int .i64 D.length, .int .i64 k, q18, q19, q20, q21, q22, q23, q24, q25, q26, q27, q28, q29, q30, q31, q32, q33, q34, q35, q36, q37, q38, q39, q40, q41], []⟩ ∧ ChSt w wa W (.slice (some ⟨b, o, none⟩) D.length cv) D g5 g6 g8 g9 F F d E) ?_ ?_
      rotate_left
      · clear hK1 K1
        have STa : Hid (ChSt w wa wd.drew (.slice (some ⟨b, o, none⟩) D.length cv) D g5 g6 g8 g9 E E d E) := ST.out.below ((Below.refl _ _).drew)
        refine wp_region_held_drew (S := fun w' => w'.rangeAt g8 0 (d.map bv)) (by kernel_rfl) STa.out.2.2.1.range (fun hHeld => ?_)
        refine wpAnyH_take (i := 1) (v := .agg (bvA d)) rfl (by kernel_rfl) (by kernel_rfl) (by kernel_rfl) (fun _ _ _ h => nomatch h.1) (yieldsIf_load_mid (by rfl) 26 (.tmp 8) rfl g8 0 rfl (d.map bv) _ (fun _ h => h) digest_und rfl HI.out) hHeld ?_
        simp only [Act.put, List.getElem_toArray, List.getElem_cons_zero, List.getElem_cons_succ, List.setIfInBounds_toArray, List.set_cons_zero, List.set_cons_succ]
        refine wpAnyH_take (i := 4) (v := .agg (bvA d)) rfl (by kernel_rfl) (by kernel_rfl) (by kernel_rfl) (fun _ _ _ h => nomatch h.1) (yieldsIf_load_mid (by rfl) 26 (.tmp 8) rfl g8 0 rfl (d.map bv) _ (fun _ h => h) digest_und rfl HI.out) hHeld ?_
        simp only [Act.put, List.getElem_toArray, List.getElem_cons_zero, List.getElem_cons_succ, List.setIfInBounds_toArray, List.set_cons_zero, List.set_cons_succ]
        refine wpAnyH_ready (rs := [0, 3]) (by kernel_rfl) (by simp) ?_
        refine AllReadyH.cons rfl (fun K hK => ?_) ?_
        · refine step_loadM (by rfl) 26 (.tmp 5) rfl g5 0 rfl (E.map bv) _ STa.out.1.range digest_und rfl HIE.out ?_
          refine hK.out _ _ STa.out.2.2.1.range (fun hHeld => ?_)
          clear hK K
          try simp only [Act.put, List.getElem_toArray, List.getElem_cons_zero, List.getElem_cons_succ, List.setIfInBounds_toArray, List.set_cons_zero, List.set_cons_succ]
          refine wpAnyH_ready (rs := [2, 3]) (by kernel_rfl) (by simp) ?_
          refine AllReadyH.cons rfl (fun K hK => ?_) ?_
          · go_simp
            refine (c1.out _ STa.out.2.2.2.2.2.1).mono ?_
            rintro e W2 ⟨rfl, hb⟩
            have ST2 := Lib.hid (STa.out.below hb)
            clear hb
            try go_wp2_with fail
            refine hK.out _ _ ST2.out.2.2.1.range (fun hHeld => ?_)
            clear hK K
            try simp only [Act.put, List.getElem_toArray, List.getElem_cons_zero, List.getElem_cons_succ, List.setIfInBounds_toArray, List.set_cons_zero, List.set_cons_succ]
            refine wpAnyH_ready (rs := [3]) (by kernel_rfl) (by simp) ?_
            refine AllReadyH.cons rfl (fun K hK => ?_) ?_
            · refine step_loadM (by rfl) 26 (.tmp 6) rfl g6 0 rfl (E.map bv) _ ST2.out.2.1.range digest_und rfl HIE.out ?_
              refine hK.out _ _ ST2.out.2.2.1.range (fun hHeld => ?_)
              clear hK K
              try simp only [Act.put, List.getElem_toArray, List.getElem_cons_zero, List.getElem_cons_succ, List.setIfInBounds_toArray, List.set_cons_zero, List.set_cons_succ]
              refine wpAnyH_ready (rs := [5]) (by kernel_rfl) (by simp) ?_
              refine AllReadyH.cons rfl (fun K hK => ?_) ?_
              · go_simp
                refine (c2.out _).mono ?_
                rintro e W4 ⟨rfl, hb⟩
                have ST4 := Lib.hid (ST2.out.below hb)
                clear hb
                try go_wp2_with fail
                refine hK.out _ _ ST4.out.2.2.1.range (fun hHeld => ?_)
                clear hK K
                try simp only [Act.put, List.getElem_toArray, List.getElem_cons_zero, List.getElem_cons_succ, List.setIfInBounds_toArray, List.set_cons_zero, List.set_cons_succ]
                refine wpAnyH_ready (rs := [6]) (by kernel_rfl) (by simp) (AllReadyH.cons rfl (fun K hK => ?_) AllReadyH.nil)
                rw [if_pos (by rfl)]
                refine wp_storeA 26 (.tmp 5) (.tmp 24) rfl g5 (bvA F) rfl rfl 26 _ ST4.out.1 HSF.out HOF.out (bvA_one _) ?_
                intro V4 hn hg
                have SU4 := Lib.hid (ST4.out.put5 hn hg)
                clear hn hg
                refine hK.out _ _ SU4.out.2.2.1.range (fun hHeld => ?_)
                clear hK K
                try simp only [Act.put, List.getElem_toArray, List.getElem_cons_zero, List.getElem_cons_succ, List.setIfInBounds_toArray, List.set_cons_zero, List.set_cons_succ]
                refine wpAnyH_ready (rs := [7]) (by kernel_rfl) (by simp) (AllReadyH.cons rfl (fun K hK => ?_) AllReadyH.nil)
                rw [if_pos (by rfl)]
                refine wp_storeA 26 (.tmp 6) (.tmp 27) rfl g6 (bvA F) rfl rfl 26 _ SU4.out.2.1 HSF.out HOF.out (bvA_one _) ?_
                intro U4 hn hg
                have SV4 := Lib.hid (SU4.out.put6 hn hg)
                clear hn hg
                refine hK.out _ _ SV4.out.2.2.1.range (fun hHeld => ?_)
                clear hK K
                try simp only [Act.put, List.getElem_toArray, List.getElem_cons_zero, List.getElem_cons_succ, List.setIfInBounds_toArray, List.set_cons_zero, List.set_cons_succ]
                refine wpAnyH_done (by kernel_rfl) ?_ _
                exact ⟨rfl, _, _, _, _, _, _, _, _, _, _, _, _, _, _, _, _, _, _, _, _, _, _, _, _, _, rfl, SV4.out⟩
              exact AllReadyH.nil
            exact AllReadyH.nil
          refine AllReadyH.cons rfl (fun K hK => ?_) ?_
          · refine step_loadM (by rfl) 26 (.tmp 6) rfl g6 0 rfl (E.map bv) _ STa.out.2.1.range digest_und rfl HIE.out ?_
            refine hK.out _ _ STa.out.2.2.1.range (fun hHeld => ?_)
            clear hK K
            try simp only [Act.put, List.getElem_toArray, List.getElem_cons_zero, List.getElem_cons_succ, List.setIfInBounds_toArray, List.set_cons_zero, List.set_cons_succ]
            refine wpAnyH_ready (rs := [2]) (by kernel_rfl) (by simp) ?_
            refine AllReadyH.cons rfl (fun K hK => ?_) ?_
            · go_simp
              refine (c1.out _ STa.out.2.2.2.2.2.1).mono ?_
              rintro e W6 ⟨rfl, hb⟩
              have ST6 := Lib.hid (STa.out.below hb)
              clear hb
              try go_wp2_with fail
              refine hK.out _ _ ST6.out.2.2.1.range (fun hHeld => ?_)
              clear hK K
              try simp only [Act.put, List.getElem_toArray, List.getElem_cons_zero, List.getElem_cons_succ, List.setIfInBounds_toArray, List.set_cons_zero, List.set_cons_succ]
              refine wpAnyH_ready (rs := [5]) (by kernel_rfl) (by simp) ?_
              refine AllReadyH.cons rfl (fun K hK => ?_) ?_
              · go_simp
                refine (c2.out _).mono ?_
                rintro e W7 ⟨rfl, hb⟩
                have ST7 := Lib.hid (ST6.out.below hb)
                clear hb
                try go_wp2_with fail
                refine hK.out _ _ ST7.out.2.2.1.range (fun hHeld => ?_)
                clear hK K
                try simp only [Act.put, List.getElem_toArray, List.getElem_cons_zero, List.getElem_cons_succ, List.setIfInBounds_toArray, List.set_cons_zero, List.set_cons_succ]
                refine wpAnyH_ready (rs := [6]) (by kernel_rfl) (by simp) (AllReadyH.cons rfl (fun K hK => ?_) AllReadyH.nil)
                rw [if_pos (by rfl)]
                refine wp_storeA 26 (.tmp 5) (.tmp 24) rfl g5 (bvA F) rfl rfl 26 _ ST7.out.1 HSF.out HOF.out (bvA_one _) ?_
                intro V7 hn hg
                have SU7 := Lib.hid (ST7.out.put5 hn hg)
                clear hn hg
                refine hK.out _ _ SU7.out.2.2.1.range (fun hHeld => ?_)
                clear hK K
                try simp only [Act.put, List.getElem_toArray, List.getElem_cons_zero, List.getElem_cons_succ, List.setIfInBounds_toArray, List.set_cons_zero, List.set_cons_succ]
                refine wpAnyH_ready (rs := [7]) (by kernel_rfl) (by simp) (AllReadyH.cons rfl (fun K hK => ?_) AllReadyH.nil)
                rw [if_pos (by rfl)]
                refine wp_storeA 26 (.tmp 6) (.tmp 27) rfl g6 (bvA F) rfl rfl 26 _ SU7.out.2.1 HSF.out HOF.out (bvA_one _) ?_
                intro U7 hn hg
                have SV7 := Lib.hid (SU7.out.put6 hn hg)
                clear hn hg
                refine hK.out _ _ SV7.out.2.2.1.range (fun hHeld => ?_)
                clear hK K
                try simp only [Act.put, List.getElem_toArray, List.getElem_cons_zero, List.getElem_cons_succ, List.setIfInBounds_toArray, List.set_cons_zero, List.set_cons_succ]
                refine wpAnyH_done (by kernel_rfl) ?_ _
                exact ⟨rfl, _, _, _, _, _, _, _, _, _, _, _, _, _, _, _, _, _, _, _, _, _, _, _, _, _, rfl, SV7.out⟩
              exact AllReadyH.nil
            exact AllReadyH.nil
          exact AllReadyH.nil
        refine AllReadyH.cons rfl (fun K hK => ?_) ?_
        · refine step_loadM (by rfl) 26 (.tmp 6) rfl g6 0 rfl (E.map bv) _ STa.out.2.1.range digest_und rfl HIE.out ?_
          refine hK.out _ _ STa.out.2.2.1.range (fun hHeld => ?_)
          clear hK K
          try simp only [Act.put, List.getElem_toArray, List.getElem_cons_zero, List.getElem_cons_succ, List.setIfInBounds_toArray, List.set_cons_zero, List.set_cons_succ]
          refine wpAnyH_ready (rs := [0]) (by kernel_rfl) (by simp) ?_
          refine AllReadyH.cons rfl (fun K hK => ?_) ?_
          · refine step_loadM (by rfl) 26 (.tmp 5) rfl g5 0 rfl (E.map bv) _ STa.out.1.range digest_und rfl HIE.out ?_
            refine hK.out _ _ STa.out.2.2.1.range (fun hHeld => ?_)
            clear hK K
            try simp only [Act.put, List.getElem_toArray, List.getElem_cons_zero, List.getElem_cons_succ, List.setIfInBounds_toArray, List.set_cons_zero, List.set_cons_succ]
            refine wpAnyH_ready (rs := [2]) (by kernel_rfl) (by simp) ?_
            refine AllReadyH.cons rfl (fun K hK => ?_) ?_
            · go_simp
              refine (c1.out _ STa.out.2.2.2.2.2.1).mono ?_
              rintro e W10 ⟨rfl, hb⟩
              have ST10 := Lib.hid (STa.out.below hb)
              clear hb
              try go_wp2_with fail
              refine hK.out _ _ ST10.out.2.2.1.range (fun hHeld => ?_)
              clear hK K
              try simp only [Act.put, List.getElem_toArray, List.getElem_cons_zero, List.getElem_cons_succ, List.setIfInBounds_toArray, List.set_cons_zero, List.set_cons_succ]
              refine wpAnyH_ready (rs := [5]) (by kernel_rfl) (by simp) ?_
              refine AllReadyH.cons rfl (fun K hK => ?_) ?_
              · go_simp
                refine (c2.out _).mono ?_
                rintro e W11 ⟨rfl, hb⟩
                have ST11 := Lib.hid (ST10.out.below hb)
                clear hb
                try go_wp2_with fail
                refine hK.out _ _ ST11.out.2.2.1.range (fun hHeld => ?_)
                clear hK K
                try simp only [Act.put, List.getElem_toArray, List.getElem_cons_zero, List.getElem_cons_succ, List.setIfInBounds_toArray, List.set_cons_zero, List.set_cons_succ]
                refine wpAnyH_ready (rs := [6]) (by kernel_rfl) (by simp) (AllReadyH.cons rfl (fun K hK => ?_) AllReadyH.nil)
                rw [if_pos (by rfl)]
                refine wp_storeA 26 (.tmp 5) (.tmp 24) rfl g5 (bvA F) rfl rfl 26 _ ST11.out.1 HSF.out HOF.out (bvA_one _) ?_
                intro V11 hn hg
                have SU11 := Lib.hid (ST11.out.put5 hn hg)
                clear hn hg
                refine hK.out _ _ SU11.out.2.2.1.range (fun hHeld => ?_)
                clear hK K
                try simp only [Act.put, List.getElem_toArray, List.getElem_cons_zero, List.getElem_cons_succ, List.setIfInBounds_toArray, List.set_cons_zero, List.set_cons_succ]
                refine wpAnyH_ready (rs := [7]) (by kernel_rfl) (by simp) (AllReadyH.cons rfl (fun K hK => ?_) AllReadyH.nil)
                rw [if_pos (by rfl)]
                refine wp_storeA 26 (.tmp 6) (.tmp 27) rfl g6 (bvA F) rfl rfl 26 _ SU11.out.2.1 HSF.out HOF.out (bvA_one _) ?_
                intro U11 hn hg
                have SV11 := Lib.hid (SU11.out.put6 hn hg)
                clear hn hg
                refine hK.out _ _ SV11.out.2.2.1.range (fun hHeld => ?_)
                clear hK K
                try simp only [Act.put, List.getElem_toArray, List.getElem_cons_zero, List.getElem_cons_succ, List.setIfInBounds_toArray, List.set_cons_zero, List.set_cons_succ]
                refine wpAnyH_done (by kernel_rfl) ?_ _
                exact ⟨rfl, _, _, _, _, _, _, _, _, _, _, _, _, _, _, _, _, _, _, _, _, _, _, _, _, _, rfl, SV11.out⟩
              exact AllReadyH.nil
            exact AllReadyH.nil
          exact AllReadyH.nil
        exact AllReadyH.nil
      rintro a' we ⟨q4, q18, q19, q20, q21, q22, q23, q24, q25, q26, q27, q28, q29, q30, q31, q32, q33, q34, q35, q36, q37, q38, q39, q40, q41, rfl, hst⟩
      refine hK1 _ _ ?_
      clear hK1 K1 ST c1 c2 HIE HSF HOF
      have ST := Lib.hid hst
      clear hst
      go_wp2_with fail
      rename_i K1 hK1
      have heq : ∀ W, (Op.equalIn 10000 26 (.agg (bvA F)) (.agg (bvA F))).run Tryd.prog W = .ok true W := equal_same F HF32.out
      have hqg : Tryd.prog.eqGuardType Tryd.prog.depth 26 = false := by kernel_rfl
      have HLN : Hid (([] : List UInt8).length + E.length ≤ 140737488355328) := by show _ ≤ _; rw [HE.out]; simp
      have HLM : Hid (E.length + d.length ≤ 140737488355328) := by show _ ≤ _; rw [HE.out, HD.out]; omega
      refine region_mid (fun a' W => ∃ (q4 q18 q19 q20 q21 q22 q23 q24 q25 q26 q27 q28 q29 q30 q31 q32 q33 q34 q35 q36 q37 q38 q39 q41 : Value), a' = ⟨#[.agg (bvA d0), .slice a l.length cap, q2, q3, q4, .pointer (some ⟨g5, 0, none⟩), .pointer (some ⟨g6, 0, none⟩), q7, .pointer (some ⟨g8, 0, none⟩), .pointer (some ⟨g9, 0, none⟩), q10, q11, q12, q13, .slice a l.length cap, .slice (some ⟨b, o, none⟩) D.length cv, .int .i64 D.length, .int .i64 k, q18, q19, q20, q21, q22, q23, q24, q25, q26, q27, q28, q29, q30, q31, q32, q33, q34, q35, q36, q37, q38, q39, .bool false, q41], []⟩ ∧ ChSt w wa W (.slice (some ⟨b, o, none⟩) D.length cv) D g5 g6 g8 g9 F F d E) ?_ ?_
      rotate_left
      · clear hK1 K1
        have STa : Hid (ChSt w wa we.drew (.slice (some ⟨b, o, none⟩) D.length cv) D g5 g6 g8 g9 F F d E) := ST.out.below ((Below.refl _ _).drew)
        refine wp_region_held_drew (S := fun w' => w'.rangeAt g5 0 (F.map bv) ∧ w'.rangeAt g6 0 (F.map bv)) (by kernel_rfl) ⟨STa.out.1.range, STa.out.2.1.range⟩ (fun hHeld => ?_)
        refine wpAnyH_take (i := 0) (v := .agg (bvA F)) rfl (by kernel_rfl) (by kernel_rfl) (by kernel_rfl) (fun _ _ _ h => nomatch h.1) (yieldsIf_load_mid (by rfl) 26 (.tmp 5) rfl g5 0 rfl (F.map bv) _ (fun _ h => h.1) digest_und rfl HIF.out) hHeld ?_
        simp only [Act.put, List.getElem_toArray, List.getElem_cons_zero, List.getElem_cons_succ, List.setIfInBounds_toArray, List.set_cons_zero, List.set_cons_succ]
        refine wpAnyH_take (i := 1) (v := .agg (bvA F)) rfl (by kernel_rfl) (by kernel_rfl) (by kernel_rfl) (fun _ _ _ h => nomatch h.1) (yieldsIf_load_mid (by rfl) 26 (.tmp 6) rfl g6 0 rfl (F.map bv) _ (fun _ h => h.2) digest_und rfl HIF.out) hHeld ?_
        simp only [Act.put, List.getElem_toArray, List.getElem_cons_zero, List.getElem_cons_succ, List.setIfInBounds_toArray, List.set_cons_zero, List.set_cons_succ]
        refine wpAnyH_take (i := 2) (v := .bool false) rfl (by kernel_rfl) (by kernel_rfl) (by kernel_rfl) (fun _ _ _ h => nomatch h.1) (Or.inl ⟨by rfl, fun w _ => by go_simp⟩) hHeld ?_
        simp only [Act.put, List.getElem_toArray, List.getElem_cons_zero, List.getElem_cons_succ, List.setIfInBounds_toArray, List.set_cons_zero, List.set_cons_succ]
        refine wpAnyH_take (i := 3) (v := .bool false) rfl (by kernel_rfl) (by kernel_rfl) (by kernel_rfl) (fun _ _ _ h => nomatch h.1) (Or.inl ⟨by rfl, fun w _ => by go_simp⟩) hHeld ?_
        simp only [Act.put, List.getElem_toArray, List.getElem_cons_zero, List.getElem_cons_succ, List.setIfInBounds_toArray, List.set_cons_zero, List.set_cons_succ]
        refine wpAnyH_take (i := 4) (v := .agg (bvA F)) rfl (by kernel_rfl) (by kernel_rfl) (by kernel_rfl) (fun _ _ _ h => nomatch h.1) (yieldsIf_load_mid (by rfl) 26 (.tmp 5) rfl g5 0 rfl (F.map bv) _ (fun _ h => h.1) digest_und rfl HIF.out) hHeld ?_
        simp only [Act.put, List.getElem_toArray, List.getElem_cons_zero, List.getElem_cons_succ, List.setIfInBounds_toArray, List.set_cons_zero, List.set_cons_succ]
        refine wpAnyH_take (i := 6) (v := .slice (some ⟨g9, 0, none⟩) 32 32) rfl (by kernel_rfl) (by kernel_rfl) (by kernel_rfl) (fun _ _ _ h => nomatch h.1) (Or.inl ⟨by rfl, fun w _ => by go_simp⟩) hHeld ?_
        simp only [Act.put, List.getElem_toArray, List.getElem_cons_zero, List.getElem_cons_succ, List.setIfInBounds_toArray, List.set_cons_zero, List.set_cons_succ]
        refine wpAnyH_take (i := 8) (v := .slice (some ⟨g8, 0, none⟩) 32 32) rfl (by kernel_rfl) (by kernel_rfl) (by kernel_rfl) (fun _ _ _ h => nomatch h.1) (Or.inl ⟨by rfl, fun w _ => by go_simp⟩) hHeld ?_
        simp only [Act.put, List.getElem_toArray, List.getElem_cons_zero, List.getElem_cons_succ, List.setIfInBounds_toArray, List.set_cons_zero, List.set_cons_succ]
        refine wpAnyH_ready (rs := [5]) (by kernel_rfl) (by simp) (AllReadyH.cons rfl (fun K hK => ?_) AllReadyH.nil)
        rw [if_pos (by rfl)]
        refine wp_nilB rfl we.drew.heap.size (Nat.le_refl _) ?_
        intro w2 v2 ho2 hn2 hb2
        have HBx := Lib.hid hb2
        have STb := Lib.hid (STa.out.below hb2)
        have HO2 := Lib.hid ho2
        clear ho2 hn2 hb2
        refine hK.out _ _ ⟨STb.out.1.range, STb.out.2.1.range⟩ (fun hHeld => ?_)
        clear hK K
        try simp only [Act.put, List.getElem_toArray, List.getElem_cons_zero, List.getElem_cons_succ, List.setIfInBounds_toArray, List.set_cons_zero, List.set_cons_succ]
        refine wpAnyH_ready (rs := [7]) (by kernel_rfl) (by simp) (AllReadyH.cons rfl (fun K hK => ?_) AllReadyH.nil)
        rw [if_pos (by rfl)]
        refine wp_appBn (.tmp 33) (.tmp 34) rfl we.drew.heap.size v2 [] E _ (some ⟨g9, 0, none⟩) 32 (by rfl) (by rfl) HE.out.symm HO2.out (STb.out.2.2.2.1.rdB (by rw [HE.out]; unfold maxLen; omega)) (fun h => by cases h) HLN.out HBx.out.size ?_
        intro v3 w3 ho3 hg3
        have HBy := Lib.hid (HBx.out.trans (hg3.below HO2.out.base HBx.out.size))
        have STc := Lib.hid (STa.out.below HBy.out)
        have HO3 : Hid (OwnB we.drew.heap.size w3 v3 E) := ho3
        clear ho3 hg3
        refine hK.out _ _ ⟨STc.out.1.range, STc.out.2.1.range⟩ (fun hHeld => ?_)
        clear hK K
        try simp only [Act.put, List.getElem_toArray, List.getElem_cons_zero, List.getElem_cons_succ, List.setIfInBounds_toArray, List.set_cons_zero, List.set_cons_succ]
        refine wpAnyH_ready (rs := [9]) (by kernel_rfl) (by simp) (AllReadyH.cons rfl (fun K hK => ?_) AllReadyH.nil)
        rw [if_pos (by rfl)]
        refine wp_appBn (.tmp 35) (.tmp 36) rfl we.drew.heap.size v3 E d _ (some ⟨g8, 0, none⟩) 32 (by rfl) (by rfl) HD.out.symm HO3.out (STc.out.2.2.1.rdB (by rw [HD.out]; unfold maxLen; omega)) (fun h => by cases h) HLM.out HBy.out.size ?_
        intro v4 w4 ho4 hg4
        have HBz := Lib.hid (HBy.out.trans (hg4.below HO3.out.base HBy.out.size))
        have STd := Lib.hid (STa.out.below HBz.out)
        obtain ⟨a4, cap4, rfl, _, _⟩ := ho4.form
        have hSl : (E ++ d).length ≤ 1152921504606840000 := by rw [List.length_append, HE.out, HD.out]; omega
        have cS := Tagged_any ⟨#[99, 104, 97, 105, 110]⟩ a4 cap4 (E ++ d) w4 (HT.out.below STd.out.2.2.2.2.2.1 hlt) ho4.rdOf ho4.caps.1 ho4.caps.2 (by decide) hSl
        have HCS : Hid (Calls Tryd.prog 14 #[.string ⟨#[99, 104, 97, 105, 110]⟩, .slice a4 (E ++ d).length cap4] w4 fun e w' => e = .returned (.agg (bvA F)) ∧ Below w4.heap.size w4 w') := by show Calls _ _ _ _ _; rw [HF.out]; exact cS
        clear ho4 hg4 cS hSl
        generalize (E ++ d).length = ml at *
        refine hK.out _ _ ⟨STd.out.1.range, STd.out.2.1.range⟩ (fun hHeld => ?_)
        clear hK K
        try simp only [Act.put, List.getElem_toArray, List.getElem_cons_zero, List.getElem_cons_succ, List.setIfInBounds_toArray, List.set_cons_zero, List.set_cons_succ]
        refine wpAnyH_ready (rs := [10]) (by kernel_rfl) (by simp) (AllReadyH.cons rfl (fun K hK => ?_) AllReadyH.nil)
        go_simp
        refine HCS.out.mono ?_
        rintro e w5 ⟨rfl, hb5⟩
        have STe := Lib.hid (STd.out.below hb5)
        clear hb5
        try go_wp2_with fail
        refine hK.out _ _ ⟨STe.out.1.range, STe.out.2.1.range⟩ (fun hHeld => ?_)
        clear hK K
        try simp only [Act.put, List.getElem_toArray, List.getElem_cons_zero, List.getElem_cons_succ, List.setIfInBounds_toArray, List.set_cons_zero, List.set_cons_succ]
        refine wpAnyH_take (i := 11) (v := .bool false) rfl (by kernel_rfl) (by kernel_rfl) (by kernel_rfl) (fun _ _ _ h => nomatch h.1) (Or.inl ⟨by rfl, fun w _ => by go_simp⟩) hHeld ?_
        simp only [Act.put, List.getElem_toArray, List.getElem_cons_zero, List.getElem_cons_succ, List.setIfInBounds_toArray, List.set_cons_zero, List.set_cons_succ]
        refine wpAnyH_take (i := 12) (v := .bool false) rfl (by kernel_rfl) (by kernel_rfl) (by kernel_rfl) (fun _ _ _ h => nomatch h.1) (Or.inl ⟨by rfl, fun w _ => by go_simp⟩) hHeld ?_
        simp only [Act.put, List.getElem_toArray, List.getElem_cons_zero, List.getElem_cons_succ, List.setIfInBounds_toArray, List.set_cons_zero, List.set_cons_succ]
        refine wpAnyH_done (by kernel_rfl) ?_ _
        exact ⟨rfl, _, _, _, _, _, _, _, _, _, _, _, _, _, _, _, _, _, _, _, _, _, _, _, _, rfl, STe.out⟩
      rintro a' wf ⟨q4, q18, q19, q20, q21, q22, q23, q24, q25, q26, q27, q28, q29, q30, q31, q32, q33, q34, q35, q36, q37, q38, q39, q41, rfl, hst⟩
      refine hK1 _ _ ?_
      clear hK1 K1 ST
      go_wp2_with fail
      go_roundw
      case rel => exact ⟨k + 1, F, by omega, by go_num, HF32.out, hst.1, hst.2.1, hst.2.2.2.2.1, hst.2.2.2.2.2.1⟩
      case measure => simp [intOf]; omega
    · obtain rfl : k = D.length := by omega
      go_wp2_with fail
      go_ret
      exact ⟨rfl, HB.out⟩

end Go.Proofs.YtndbhmipehpebaaDoor
