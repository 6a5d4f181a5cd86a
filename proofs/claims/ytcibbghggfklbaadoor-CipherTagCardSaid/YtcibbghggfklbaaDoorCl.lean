/-
  The walk of chartroomlaw06.CipherLong.
-/
import Derived.Test.YtcibbghggfklbaaDoorCz
namespace Go.Proofs.YtcibbghggfklbaaDoor
open Go.RowKit
set_option linter.unusedVariables false
set_option linter.unusedSimpArgs false

/-- An append elsewhere. -/
theorem RdV.grew {w w' : World} {v v' : Value} {b o q c : Nat} {l : List UInt8} (h : RdV w (.slice (some ⟨b, o, none⟩) q c) l) (hg : Grew w v w' v') (hne : v.ownBlock ≠ some b) : RdV w' (.slice (some ⟨b, o, none⟩) q c) l := by
  obtain ⟨a', c', e, ⟨h1, h2⟩, h3⟩ := h.form
  injection e with e1 e2 e3
  subst e1; subst e2; subst e3
  refine ⟨_, _, rfl, ⟨h1, ?_⟩, h3⟩
  rcases h2 with h2 | ⟨b', o', e, hb, hc⟩
  · exact .inl h2
  · injection e with e; injection e with e1 e2
    subst e1; subst e2
    exact .inr ⟨b, o, rfl, Nat.lt_of_lt_of_le hb hg.size, fun j hj => (hg.cell (p := ⟨b, o + j, none⟩) hb hne).trans (hc j hj)⟩
/-- []byte{}, []byte{c}: at a step of a drawn region. -/
theorem wp_nilB0 {o : Oper} {a : Act} {w : World} {K : Act → World → Prop} {Q : Exit → Act → World → Prop} (ho : o.op = .buildSlice 28 0 #[])
    (h : ∀ w' g, OwnB w.heap.size w' (.slice (some ⟨g, 0, none⟩) 0 0) [] → g = w.heap.size → w'.heap.size = w.heap.size + 1 → Below w.heap.size w w' → K (a.put o.dst (.slice (some ⟨g, 0, none⟩) 0 0)) w') : o.wp Tryd.prog a w K Q := by
  have hh := h _ _ (OwnB.emptyB (Nat.le_refl _)) rfl (alloc_size _ _) ((Below.refl _ _).alloc (Nat.le_refl _) _)
  unfold Oper.wp execOp
  have hr : (Instr.buildSlice 28 0 #[]).run Tryd.prog w = .ok (.slice (some ⟨w.heap.size, 0, none⟩) 0 0) (w.alloc (.cells #[] 5)) := by kernel_rfl
  simp only [ho, Sem.run_bind, Sem.run_pure, Result.andThen_ok, Array.map_empty, List.map_toArray, List.map_nil, hr]
  exact hh
theorem RdV.one (w : World) (c : UInt8) : RdV (w.alloc (.cells #[bv c] 5)) (.slice (some ⟨w.heap.size, 0, none⟩) 1 1) [c] := (OwnB.built (B := w.heap.size) c (Nat.le_refl _)).rdv
theorem u8_of {y : Int} (h : (Lit.int .u8 y).wf = true) : ∃ c : UInt8, y = (c.toNat : Int) := by
  have h1 : 0 ≤ y ∧ y < 256 := by
    have := bounds_u8 h
    omega
  refine ⟨UInt8.ofNat y.toNat, ?_⟩
  rw [UInt8.toNat_ofNat']
  omega

set_option maxRecDepth 100000 in
set_option maxHeartbeats 4000000 in
theorem long_walk6 (k n : List UInt8) (hk : k.length = 32) (hn : n.length = 12) (cy : UInt8) (w : World) (hT : Tab w)  :
    Calls Tryd.prog 10 #[.agg (bvA k), .agg (bvA n), .int .u8 (cy.toNat : Int)] w fun e w' => e = .returned (.bool true) ∧ Below w.heap.size w w' := by
  have HSK := Lib.hid (key_size k hk)
  have HSN := Lib.hid (nonce_size n hn)
  have HLK := Lib.hid hk
  have HLN := Lib.hid hn
  have HT := Lib.hid hT
  obtain ⟨w1, hw1⟩ : ∃ w1, w1 = (w.alloc (.cells (bvA k) 23)).alloc (.cells (bvA n) 25) := ⟨_, rfl⟩
  have HK1 : Hid (KN w k n w1) := Lib.hid (hw1 ▸ KN.start w k n)
  clear hk hn hT
  go_enter Tryd.func10, Tryd.ntmps10
  go_wp2_with fail
  rw [← hw1]
  clear hw1
  refine (csane6_any w1 (HT.out.below HK1.out.below HT.out.lt)).mono ?_
  rintro e w2 ⟨rfl, hb2⟩
  have HK2 := Lib.hid (HK1.out.call hb2)
  clear hb2 HK1
  have hmk := run_makeZ 65537 (by decide) w2
  replace hmk : (Instr.makeSlice 28 (.int .i64 65537) (.int .i64 65537)).run Tryd.prog w2 = .ok (.slice (some ⟨w2.heap.size, 0, none⟩) 65537 65537) (w2.alloc (.cells (madeCells #[.int .u8 0] 65537) 5)) := hmk
  have HO3 : Hid (OwnB w2.heap.size (w2.alloc (.cells (madeCells #[.int .u8 0] 65537) 5)) (.slice (some ⟨w2.heap.size, 0, none⟩) 65537 65537) (List.replicate 65537 0)) := Lib.hid (OwnB.zeros (B := w2.heap.size) (w := w2) 65537 (by decide) (Nat.le_refl _))
  have HB3 : Hid (Below w2.heap.size w2 (w2.alloc (.cells (madeCells #[.int .u8 0] 65537) 5))) := Lib.hid ((Below.refl _ _).alloc (Nat.le_refl _) _)
  obtain ⟨l0, hl0⟩ : ∃ l0 : List UInt8, l0 = List.replicate 65537 0 := ⟨_, rfl⟩
  have hl0n : l0.length = 65537 := by rw [hl0, List.length_replicate]
  rw [← hl0] at HO3
  obtain ⟨w3, hw3⟩ : ∃ w3, w2.alloc (.cells (madeCells #[.int .u8 0] 65537) 5) = w3 := ⟨_, rfl⟩
  rw [hw3] at HO3 HB3 hmk
  have ho3 := HO3.out
  rw [← hl0n] at ho3
  have ck := ho3.cellAt 65535 (by rw [hl0n]; decide)
  have fk := ho3.frozenAt 65535
  have HO4 : Hid (OwnB w2.heap.size (w3.setCell ⟨w2.heap.size, 65535, none⟩ (.int .u8 (cy.toNat : Int))) (.slice (some ⟨w2.heap.size, 0, none⟩) 65537 65537) (l0.set 65535 cy)) := Lib.hid (by have h := ho3.stored 65535 cy; rw [hl0n] at h; exact h)
  have HB4 : Hid (Below w2.heap.size w2 (w3.setCell ⟨w2.heap.size, 65535, none⟩ (.int .u8 (cy.toNat : Int)))) := Lib.hid (HB3.out.setCell (Nat.le_refl _) _)
  obtain ⟨l, hl⟩ : ∃ l : List UInt8, l = l0.set 65535 cy := ⟨_, rfl⟩
  have HL : Hid (l.length = 65537) := Lib.hid (by rw [hl, List.length_set, hl0n])
  have HLC : Hid ((l.take 65536).getD 65535 0 = cy) := Lib.hid (by
    rw [List.getD, List.getElem?_take, if_pos (by decide), hl, List.getElem?_set_self (by rw [hl0n]; decide)]; rfl)
  rw [← hl] at HO4
  generalize l0[65535]'(by rw [hl0n]; decide) = z at ck
  have HI65 := Lib.hid hl0
  clear hl0 hl0n ho3 hl hw3 HO3 HI65
  go_wp2_with fail
  generalize w3.setCell ⟨w2.heap.size, 65535, none⟩ (.int .u8 (cy.toNat : Int)) = w4 at *
  clear ck fk hmk
  have HK4 := Lib.hid (HK2.out.call HB4.out)
  have HR4 := Lib.hid HO4.out.rdv
  have HTL : Hid ((l.take 65536).length = 65536) := Lib.hid (by rw [List.length_take, HL.out]; decide)
  have HCL : Hid ((sealC k n [] (l.take 65536)).length = 65552) := Lib.hid (by rw [sealC_len, HTL.out])
  clear HO4 HB3 HB4 HK2
  have HSB : Hid (∀ W, Below w4.heap.size w4 W → KN w k n W) := Lib.hid (fun W hW => HK4.out.call hW)
  have HB0 : Hid (Below w4.heap.size w4 w4.drew) := (Below.refl _ _).drew
  have HSLK := Lib.hid (key_sizeL k HLK.out)
  have HSLN := Lib.hid (nonce_sizeL n HLN.out)
  refine wp_region_held_drew (S := fun W => KN w k n W) (by kernel_rfl) (HSB.out _ HB0.out) (fun hHeld => ?_)
  refine wpAnyH_take (i := 0) (v := .agg (bvA k)) rfl (by kernel_rfl) (by kernel_rfl) (by kernel_rfl) (fun _ _ _ h => h) (yieldsIf_load_mid (by rfl) 23 (.tmp 3) rfl w.heap.size 0 rfl (k.map bv) _ (fun _ h => h.key.range) Tryd.underlying23 rfl HSLK.out) hHeld ?_
  simp only [Act.put, List.getElem_toArray, List.getElem_cons_zero, List.getElem_cons_succ, List.setIfInBounds_toArray, List.set_cons_zero, List.set_cons_succ]
  refine wpAnyH_take (i := 1) (v := .agg (bvA n)) rfl (by kernel_rfl) (by kernel_rfl) (by kernel_rfl) (fun _ _ _ h => h) (yieldsIf_load_mid (by rfl) 25 (.tmp 4) rfl (w.heap.size + 1) 0 rfl (n.map bv) _ (fun _ h => h.nonce.range) Tryd.underlying25 rfl HSLN.out) hHeld ?_
  simp only [Act.put, List.getElem_toArray, List.getElem_cons_zero, List.getElem_cons_succ, List.setIfInBounds_toArray, List.set_cons_zero, List.set_cons_succ]
  refine wpAnyH_take (i := 2) (v := .slice (some ⟨w2.heap.size, 0, none⟩) 65537 65537) rfl (by kernel_rfl) (by kernel_rfl) (by kernel_rfl) (fun _ _ _ h => h) (Or.inl ⟨by rfl, fun w _ => by go_simp⟩) hHeld ?_
  simp only [Act.put, List.getElem_toArray, List.getElem_cons_zero, List.getElem_cons_succ, List.setIfInBounds_toArray, List.set_cons_zero, List.set_cons_succ]
  refine wpAnyH_take (i := 3) (v := .slice (some ⟨w2.heap.size, 0, none⟩) 65536 65537) rfl (by kernel_rfl) (by kernel_rfl) (by kernel_rfl) (fun _ _ _ h => h) (Or.inl ⟨by rfl, fun w _ => by go_simp⟩) hHeld ?_
  simp only [Act.put, List.getElem_toArray, List.getElem_cons_zero, List.getElem_cons_succ, List.setIfInBounds_toArray, List.set_cons_zero, List.set_cons_succ]
  refine wpAnyH_ready (rs := [4]) (by kernel_rfl) (by simp) (AllReadyH.cons rfl (fun K hK => ?_) AllReadyH.nil)
  go_simp
  refine (Seal_le k n HLK.out HLN.out [] (l.take 65536) none 0 0 _ 65536 65537 w4.drew (HT.out.below (HK4.out.below.trans (HB0.out.mono HK4.out.below.size)) HT.out.lt) (RdV.nil _) ((HR4.out.cut 65536 (by decide)).call HB0.out) (by decide) (by rw [HTL.out]; decide)).mono ?_
  rintro e w5 hA
  obtain ⟨a5, c5, rfl, ho5, hb5⟩ := hA.open
  rw [HCL.out] at ho5 ⊢
  have HR5 := Lib.hid ho5.rdv
  have HE5 := Lib.hid (HB0.out.trans (hb5.mono HB0.out.size))
  clear hA ho5 hb5
  try go_wp2_with fail
  refine hK.out _ _ (HSB.out _ HE5.out) (fun hHeld => ?_)
  clear hK K
  try simp only [Act.put, List.getElem_toArray, List.getElem_cons_zero, List.getElem_cons_succ, List.setIfInBounds_toArray, List.set_cons_zero, List.set_cons_succ]
  refine wpAnyH_take (i := 5) (v := .tuple #[.slice a5 65552 c5, .int .i64 0]) rfl (by kernel_rfl) (by kernel_rfl) (by kernel_rfl) (fun _ _ _ h => h) (Or.inl ⟨by rfl, fun w _ => by go_simp⟩) hHeld ?_
  simp only [Act.put, List.getElem_toArray, List.getElem_cons_zero, List.getElem_cons_succ, List.setIfInBounds_toArray, List.set_cons_zero, List.set_cons_succ]
  refine wpAnyH_take (i := 6) (v := .slice a5 65552 c5) rfl (by kernel_rfl) (by kernel_rfl) (by kernel_rfl) (fun _ _ _ h => h) (Or.inl ⟨by rfl, fun w _ => by go_simp⟩) hHeld ?_
  simp only [Act.put, List.getElem_toArray, List.getElem_cons_zero, List.getElem_cons_succ, List.setIfInBounds_toArray, List.set_cons_zero, List.set_cons_succ]
  refine wpAnyH_take (i := 7) (v := .int .i64 0) rfl (by kernel_rfl) (by kernel_rfl) (by kernel_rfl) (fun _ _ _ h => h) (Or.inl ⟨by rfl, fun w _ => by go_simp⟩) hHeld ?_
  simp only [Act.put, List.getElem_toArray, List.getElem_cons_zero, List.getElem_cons_succ, List.setIfInBounds_toArray, List.set_cons_zero, List.set_cons_succ]
  refine wpAnyH_take (i := 8) (v := .slice a5 65552 c5) rfl (by kernel_rfl) (by kernel_rfl) (by kernel_rfl) (fun _ _ _ h => h) (Or.inl ⟨by rfl, fun w _ => by go_simp⟩) hHeld ?_
  simp only [Act.put, List.getElem_toArray, List.getElem_cons_zero, List.getElem_cons_succ, List.setIfInBounds_toArray, List.set_cons_zero, List.set_cons_succ]
  refine wpAnyH_take (i := 9) (v := .int .i64 0) rfl (by kernel_rfl) (by kernel_rfl) (by kernel_rfl) (fun _ _ _ h => h) (Or.inl ⟨by rfl, fun w _ => by go_simp⟩) hHeld ?_
  simp only [Act.put, List.getElem_toArray, List.getElem_cons_zero, List.getElem_cons_succ, List.setIfInBounds_toArray, List.set_cons_zero, List.set_cons_succ]
  refine wpAnyH_done (by kernel_rfl) ?_ _
  have HK5 := Lib.hid (HSB.out _ HE5.out)
  have HR4' := Lib.hid (HR4.out.call HE5.out)
  clear hHeld HB0 HSB HE5 HK4 HR4
  go_wp2_with (first
      | (refine wpList_load_row rfl 23 (.tmp 3) rfl w.heap.size rfl _ (bvA k) (0, 0) _ HK5.out.key Tryd.underlying23 rfl HSK.out ?_)
      | (refine wpList_load_row rfl 25 (.tmp 4) rfl (w.heap.size + 1) rfl _ (bvA n) (0, 0) _ HK5.out.nonce Tryd.underlying25 rfl HSN.out ?_))
  refine (Open_sealed k n HLK.out HLN.out [] (l.take 65536) none 0 0 a5 65552 c5 w5 (HT.out.below HK5.out.below HT.out.lt) (RdV.nil _) HR5.out (by decide) (by rw [HTL.out]; decide)).mono ?_
  rintro e w6 hA
  obtain ⟨a6, c6, rfl, ho6, hb6⟩ := hA.open
  rw [HTL.out] at ho6 ⊢
  have HX6 := Lib.hid ho6.rdv
  have HC6 := Lib.hid (HR5.out.call hb6)
  have HR6 := Lib.hid (HR4'.out.call hb6)
  have HK6 := Lib.hid (HK5.out.call hb6)
  clear hA ho6 hb6 HK5 HR5 HR4'
  go_wp2_with (first
      | (refine wpList_load_row rfl 23 (.tmp 3) rfl w.heap.size rfl _ (bvA k) (0, 0) _ HK6.out.key Tryd.underlying23 rfl HSK.out ?_)
      | (refine wpList_load_row rfl 25 (.tmp 4) rfl (w.heap.size + 1) rfl _ (bvA n) (0, 0) _ HK6.out.nonce Tryd.underlying25 rfl HSN.out ?_))
  refine (Stream_bad k n _ 65537 65537 w6 (by decide)).mono ?_
  rintro e w7 ⟨rfl, hb7⟩
  have HX7 := Lib.hid (HX6.out.call hb7)
  have HC7 := Lib.hid (HC6.out.call hb7)
  have HK7 := Lib.hid (HK6.out.call hb7)
  clear hb7 HK6 HX6 HC6 HR6
  go_wp2_with (first
      | (refine wpList_load_row rfl 23 (.tmp 3) rfl w.heap.size rfl _ (bvA k) (0, 0) _ HK7.out.key Tryd.underlying23 rfl HSK.out ?_)
      | (refine wpList_load_row rfl 25 (.tmp 4) rfl (w.heap.size + 1) rfl _ (bvA n) (0, 0) _ HK7.out.nonce Tryd.underlying25 rfl HSN.out ?_))
  refine (Seal_bad k n HLK.out HLN.out _ _ 65537 65537 w7 (by decide)).mono ?_
  rintro e w8 ⟨rfl, hb8⟩
  have HX8 := Lib.hid (HX7.out.call hb8)
  have HC8 := Lib.hid (HC7.out.call hb8)
  have HK8 := Lib.hid (HK7.out.call hb8)
  clear hb8 HK7 HX7 HC7
  go_wp2_with fail
  rename_i K0 hK0
  obtain ⟨C, hC⟩ : ∃ C, sealC k n [] (l.take 65536) = C := ⟨_, rfl⟩
  rw [hC] at HCL HC8
  clear hC
  have HSB : Hid (∀ W, Below w8.heap.size w8 W → KN w k n W) := Lib.hid (fun W hW => HK8.out.call hW)
  have HB0 : Hid (Below w8.heap.size w8 w8.drew) := (Below.refl _ _).drew
  have HLA : Hid (([] : List UInt8).length + C.length ≤ 140737488355328) := Lib.hid (by rw [HCL.out]; decide)
  have HLB : Hid (([] ++ C).length + [(0 : UInt8)].length ≤ 140737488355328) := Lib.hid (by rw [List.nil_append, HCL.out]; decide)
  have HLL : Hid (([] ++ C ++ [(0 : UInt8)]).length = 65553) := Lib.hid (by rw [List.nil_append, List.length_append, HCL.out]; rfl)
  have HCR : Hid (∀ W, Below w8.heap.size w8 W → RdV W (.slice a5 65552 c5) C) := Lib.hid (fun W hW => HC8.out.call hW)
  refine region_writes [54, 55, 56, 57, 58, 59, 60, 61, 53, 62, 63, 16, 17] (fun f W => f 16 = .slice none 0 0 ∧ f 17 = .int .i64 60 ∧ Below w8.heap.size w8 W) ?_ ?_
  rotate_left
  · clear hK0 K0
    refine wp_region_held_drew (S := fun W => KN w k n W) (by kernel_rfl) (HSB.out _ HB0.out) (fun hHeld => ?_)
    refine wpAnyH_take (i := 0) (v := .agg (bvA k)) rfl (by kernel_rfl) (by kernel_rfl) (by kernel_rfl) (fun _ _ _ h => nomatch h.1) (yieldsIf_load_mid (by rfl) 23 (.tmp 3) rfl w.heap.size 0 rfl (k.map bv) _ (fun _ h => h.key.range) Tryd.underlying23 rfl HSLK.out) hHeld ?_
    simp only [Act.put, List.getElem_toArray, List.getElem_cons_zero, List.getElem_cons_succ, List.setIfInBounds_toArray, List.set_cons_zero, List.set_cons_succ]
    refine wpAnyH_take (i := 1) (v := .agg (bvA n)) rfl (by kernel_rfl) (by kernel_rfl) (by kernel_rfl) (fun _ _ _ h => nomatch h.1) (yieldsIf_load_mid (by rfl) 25 (.tmp 4) rfl (w.heap.size + 1) 0 rfl (n.map bv) _ (fun _ h => h.nonce.range) Tryd.underlying25 rfl HSLN.out) hHeld ?_
    simp only [Act.put, List.getElem_toArray, List.getElem_cons_zero, List.getElem_cons_succ, List.setIfInBounds_toArray, List.set_cons_zero, List.set_cons_succ]
    refine wpAnyH_take (i := 3) (v := .slice a5 65552 c5) rfl (by kernel_rfl) (by kernel_rfl) (by kernel_rfl) (fun _ _ _ h => nomatch h.1) (Or.inl ⟨by rfl, fun w _ => by go_simp⟩) hHeld ?_
    simp only [Act.put, List.getElem_toArray, List.getElem_cons_zero, List.getElem_cons_succ, List.setIfInBounds_toArray, List.set_cons_zero, List.set_cons_succ]
    refine wpAnyH_ready (rs := [2, 5]) (by kernel_rfl) (by simp) ?_
    refine AllReadyH.cons rfl (fun K hK => ?_) ?_
    · rw [if_pos (by rfl)]
      refine wp_nilB0 rfl ?_
      intro W1 g2 ho hg2 hz hb
      have HZ := Lib.hid hz
      clear hz
      have HO2 := Lib.hid (ho.mono HB0.out.size)
      have HEW1 := Lib.hid (HB0.out.trans (hb.mono HB0.out.size))
      subst hg2
      clear ho hb
      refine hK.out _ _ (HSB.out _ HEW1.out) (fun hHeld => ?_)
      clear hK K
      try simp only [Act.put, List.getElem_toArray, List.getElem_cons_zero, List.getElem_cons_succ, List.setIfInBounds_toArray, List.set_cons_zero, List.set_cons_succ]
      refine wpAnyH_ready (rs := [4, 5]) (by kernel_rfl) (by simp) ?_
      refine AllReadyH.cons rfl (fun K hK => ?_) ?_
      · rw [if_pos (by rfl)]
        obtain ⟨a', c', he, g1, g2', g3, g4⟩ := (HCR.out _ HEW1.out).form
        injection he with e1 e2 e3
        subst e1; subst e3; clear e2
        refine wp_appB (.tmp 56) (.tmp 57) rfl w8.heap.size _ [] C _ _ rfl HO2.out (by rw [HCL.out]; rfl) g1 g4 HLA.out HEW1.out.size ?_
        intro v4 W2 ho4 hg4
        have HO4 := Lib.hid ho4
        have HEW2 := Lib.hid (HEW1.out.trans (hg4.below (fun r hr => HO2.out.base r hr) HEW1.out.size))
        clear ho4 hg4 HO2 HZ
        refine hK.out _ _ (HSB.out _ HEW2.out) (fun hHeld => ?_)
        clear hK K
        try simp only [Act.put, List.getElem_toArray, List.getElem_cons_zero, List.getElem_cons_succ, List.setIfInBounds_toArray, List.set_cons_zero, List.set_cons_succ]
        refine wpAnyH_ready (rs := [5]) (by kernel_rfl) (by simp) (AllReadyH.cons rfl (fun K hK => ?_) AllReadyH.nil)
        go_simp
        have hb : Below W2.heap.size W2 (W2.alloc (.cells #[.int .u8 0] 5)) := (Below.refl _ _).alloc (Nat.le_refl _) _
        have HEW3 := Lib.hid (HEW2.out.trans (hb.mono HEW2.out.size))
        have HR5 : Hid (RdV (W2.alloc (.cells #[.int .u8 0] 5)) (.slice (some ⟨W2.heap.size, 0, none⟩) 1 1) [0]) := Lib.hid (RdV.one W2 0)
        replace HO4 := Lib.hid (HO4.out.below hb)
        refine hK.out _ _ (HSB.out _ HEW3.out) (fun hHeld => ?_)
        clear hK K hb
        try simp only [Act.put, List.getElem_toArray, List.getElem_cons_zero, List.getElem_cons_succ, List.setIfInBounds_toArray, List.set_cons_zero, List.set_cons_succ]
        generalize W2.alloc (.cells #[.int .u8 0] 5) = W3 at *
        refine wpAnyH_ready (rs := [6]) (by kernel_rfl) (by simp) (AllReadyH.cons rfl (fun K hK => ?_) AllReadyH.nil)
        rw [if_pos (by rfl)]
        obtain ⟨a', c', he, g1, g2', g3, g4⟩ := HR5.out.form
        injection he with e1 e2 e3
        subst e1; subst e3; clear e2
        refine wp_appB (.tmp 58) (.tmp 59) rfl w8.heap.size _ ([] ++ C) [0] _ _ rfl HO4.out rfl g1 g4 HLB.out HEW3.out.size ?_
        intro v6 W9 ho6 hg6
        have HE9 := Lib.hid (HEW3.out.trans (hg6.below (fun r hr => HO4.out.base r hr) HEW3.out.size))
        obtain ⟨a6', c6', rfl, -, -⟩ := ho6.form
        rw [HLL.out]
        clear ho6 hg6 HR5 HO4
        refine hK.out _ _ (HSB.out _ HE9.out) (fun hHeld => ?_)
        clear hK K
        try simp only [Act.put, List.getElem_toArray, List.getElem_cons_zero, List.getElem_cons_succ, List.setIfInBounds_toArray, List.set_cons_zero, List.set_cons_succ]
        refine wpAnyH_ready (rs := [7]) (by kernel_rfl) (by simp) (AllReadyH.cons rfl (fun K hK => ?_) AllReadyH.nil)
        go_simp
        refine (Open_short k n _ _ 65553 _ W9 (by decide) (by decide)).mono ?_
        rintro e W10 ⟨rfl, hb10⟩
        have HE10 := Lib.hid (HE9.out.trans (hb10.mono HE9.out.size))
        clear hb10
        try go_wp2_with fail
        refine hK.out _ _ (HSB.out _ HE10.out) (fun hHeld => ?_)
        clear hK K
        try simp only [Act.put, List.getElem_toArray, List.getElem_cons_zero, List.getElem_cons_succ, List.setIfInBounds_toArray, List.set_cons_zero, List.set_cons_succ]
        refine wpAnyH_take (i := 8) (v := .tuple #[.slice none 0 0, .int .i64 60]) rfl (by kernel_rfl) (by kernel_rfl) (by kernel_rfl) (fun _ _ _ h => nomatch h.1) (Or.inl ⟨by rfl, fun w _ => by go_simp⟩) hHeld ?_
        simp only [Act.put, List.getElem_toArray, List.getElem_cons_zero, List.getElem_cons_succ, List.setIfInBounds_toArray, List.set_cons_zero, List.set_cons_succ]
        refine wpAnyH_take (i := 9) (v := .slice none 0 0) rfl (by kernel_rfl) (by kernel_rfl) (by kernel_rfl) (fun _ _ _ h => nomatch h.1) (Or.inl ⟨by rfl, fun w _ => by go_simp⟩) hHeld ?_
        simp only [Act.put, List.getElem_toArray, List.getElem_cons_zero, List.getElem_cons_succ, List.setIfInBounds_toArray, List.set_cons_zero, List.set_cons_succ]
        refine wpAnyH_take (i := 10) (v := .int .i64 60) rfl (by kernel_rfl) (by kernel_rfl) (by kernel_rfl) (fun _ _ _ h => nomatch h.1) (Or.inl ⟨by rfl, fun w _ => by go_simp⟩) hHeld ?_
        simp only [Act.put, List.getElem_toArray, List.getElem_cons_zero, List.getElem_cons_succ, List.setIfInBounds_toArray, List.set_cons_zero, List.set_cons_succ]
        refine wpAnyH_take (i := 11) (v := .slice none 0 0) rfl (by kernel_rfl) (by kernel_rfl) (by kernel_rfl) (fun _ _ _ h => nomatch h.1) (Or.inl ⟨by rfl, fun w _ => by go_simp⟩) hHeld ?_
        simp only [Act.put, List.getElem_toArray, List.getElem_cons_zero, List.getElem_cons_succ, List.setIfInBounds_toArray, List.set_cons_zero, List.set_cons_succ]
        refine wpAnyH_take (i := 12) (v := .int .i64 60) rfl (by kernel_rfl) (by kernel_rfl) (by kernel_rfl) (fun _ _ _ h => nomatch h.1) (Or.inl ⟨by rfl, fun w _ => by go_simp⟩) hHeld ?_
        simp only [Act.put, List.getElem_toArray, List.getElem_cons_zero, List.getElem_cons_succ, List.setIfInBounds_toArray, List.set_cons_zero, List.set_cons_succ]
        refine wpAnyH_done (by kernel_rfl) ?_ _
        exact ⟨rfl, writes_ex (by kernel_rfl) ⟨rfl, rfl, HE10.out⟩⟩
      refine AllReadyH.cons rfl (fun K hK => ?_) AllReadyH.nil
      · go_simp
        have hb : Below W1.heap.size W1 (W1.alloc (.cells #[.int .u8 0] 5)) := (Below.refl _ _).alloc (Nat.le_refl _) _
        have HEW2 := Lib.hid (HEW1.out.trans (hb.mono HEW1.out.size))
        have HR5 : Hid (RdV (W1.alloc (.cells #[.int .u8 0] 5)) (.slice (some ⟨W1.heap.size, 0, none⟩) 1 1) [0]) := Lib.hid (RdV.one W1 0)
        have HO2' := Lib.hid (HO2.out.below hb)
        refine hK.out _ _ (HSB.out _ HEW2.out) (fun hHeld => ?_)
        clear hK K hb
        try simp only [Act.put, List.getElem_toArray, List.getElem_cons_zero, List.getElem_cons_succ, List.setIfInBounds_toArray, List.set_cons_zero, List.set_cons_succ]
        have hne : (Value.slice (some ⟨w8.drew.heap.size, 0, none⟩) 0 0).ownBlock ≠ some W1.heap.size := by show some w8.drew.heap.size ≠ some W1.heap.size; intro e; injection e with e; have := HZ.out; omega
        generalize W1.alloc (.cells #[.int .u8 0] 5) = W2 at *
        refine wpAnyH_ready (rs := [4]) (by kernel_rfl) (by simp) (AllReadyH.cons rfl (fun K hK => ?_) AllReadyH.nil)
        rw [if_pos (by rfl)]
        obtain ⟨a', c', he, g1, g2', g3, g4⟩ := (HCR.out _ HEW2.out).form
        injection he with e1 e2 e3
        subst e1; subst e3; clear e2
        refine wp_appB (.tmp 56) (.tmp 57) rfl w8.heap.size _ [] C _ _ rfl HO2'.out (by rw [HCL.out]; rfl) g1 g4 HLA.out HEW2.out.size ?_
        intro v4 W3 ho4 hg4
        have HO4 := Lib.hid ho4
        have HEW3 := Lib.hid (HEW2.out.trans (hg4.below (fun r hr => HO2'.out.base r hr) HEW2.out.size))
        replace HR5 := Lib.hid (HR5.out.grew hg4 hne)
        clear ho4 hg4 hne
        refine hK.out _ _ (HSB.out _ HEW3.out) (fun hHeld => ?_)
        clear hK K
        try simp only [Act.put, List.getElem_toArray, List.getElem_cons_zero, List.getElem_cons_succ, List.setIfInBounds_toArray, List.set_cons_zero, List.set_cons_succ]
        refine wpAnyH_ready (rs := [6]) (by kernel_rfl) (by simp) (AllReadyH.cons rfl (fun K hK => ?_) AllReadyH.nil)
        rw [if_pos (by rfl)]
        obtain ⟨a', c', he, g1, g2', g3, g4⟩ := HR5.out.form
        injection he with e1 e2 e3
        subst e1; subst e3; clear e2
        refine wp_appB (.tmp 58) (.tmp 59) rfl w8.heap.size _ ([] ++ C) [0] _ _ rfl HO4.out rfl g1 g4 HLB.out HEW3.out.size ?_
        intro v6 W9 ho6 hg6
        have HE9 := Lib.hid (HEW3.out.trans (hg6.below (fun r hr => HO4.out.base r hr) HEW3.out.size))
        obtain ⟨a6', c6', rfl, -, -⟩ := ho6.form
        rw [HLL.out]
        clear ho6 hg6 HR5 HO4
        refine hK.out _ _ (HSB.out _ HE9.out) (fun hHeld => ?_)
        clear hK K
        try simp only [Act.put, List.getElem_toArray, List.getElem_cons_zero, List.getElem_cons_succ, List.setIfInBounds_toArray, List.set_cons_zero, List.set_cons_succ]
        refine wpAnyH_ready (rs := [7]) (by kernel_rfl) (by simp) (AllReadyH.cons rfl (fun K hK => ?_) AllReadyH.nil)
        go_simp
        refine (Open_short k n _ _ 65553 _ W9 (by decide) (by decide)).mono ?_
        rintro e W10 ⟨rfl, hb10⟩
        have HE10 := Lib.hid (HE9.out.trans (hb10.mono HE9.out.size))
        clear hb10
        try go_wp2_with fail
        refine hK.out _ _ (HSB.out _ HE10.out) (fun hHeld => ?_)
        clear hK K
        try simp only [Act.put, List.getElem_toArray, List.getElem_cons_zero, List.getElem_cons_succ, List.setIfInBounds_toArray, List.set_cons_zero, List.set_cons_succ]
        refine wpAnyH_take (i := 8) (v := .tuple #[.slice none 0 0, .int .i64 60]) rfl (by kernel_rfl) (by kernel_rfl) (by kernel_rfl) (fun _ _ _ h => nomatch h.1) (Or.inl ⟨by rfl, fun w _ => by go_simp⟩) hHeld ?_
        simp only [Act.put, List.getElem_toArray, List.getElem_cons_zero, List.getElem_cons_succ, List.setIfInBounds_toArray, List.set_cons_zero, List.set_cons_succ]
        refine wpAnyH_take (i := 9) (v := .slice none 0 0) rfl (by kernel_rfl) (by kernel_rfl) (by kernel_rfl) (fun _ _ _ h => nomatch h.1) (Or.inl ⟨by rfl, fun w _ => by go_simp⟩) hHeld ?_
        simp only [Act.put, List.getElem_toArray, List.getElem_cons_zero, List.getElem_cons_succ, List.setIfInBounds_toArray, List.set_cons_zero, List.set_cons_succ]
        refine wpAnyH_take (i := 10) (v := .int .i64 60) rfl (by kernel_rfl) (by kernel_rfl) (by kernel_rfl) (fun _ _ _ h => nomatch h.1) (Or.inl ⟨by rfl, fun w _ => by go_simp⟩) hHeld ?_
        simp only [Act.put, List.getElem_toArray, List.getElem_cons_zero, List.getElem_cons_succ, List.setIfInBounds_toArray, List.set_cons_zero, List.set_cons_succ]
        refine wpAnyH_take (i := 11) (v := .slice none 0 0) rfl (by kernel_rfl) (by kernel_rfl) (by kernel_rfl) (fun _ _ _ h => nomatch h.1) (Or.inl ⟨by rfl, fun w _ => by go_simp⟩) hHeld ?_
        simp only [Act.put, List.getElem_toArray, List.getElem_cons_zero, List.getElem_cons_succ, List.setIfInBounds_toArray, List.set_cons_zero, List.set_cons_succ]
        refine wpAnyH_take (i := 12) (v := .int .i64 60) rfl (by kernel_rfl) (by kernel_rfl) (by kernel_rfl) (fun _ _ _ h => nomatch h.1) (Or.inl ⟨by rfl, fun w _ => by go_simp⟩) hHeld ?_
        simp only [Act.put, List.getElem_toArray, List.getElem_cons_zero, List.getElem_cons_succ, List.setIfInBounds_toArray, List.set_cons_zero, List.set_cons_succ]
        refine wpAnyH_done (by kernel_rfl) ?_ _
        exact ⟨rfl, writes_ex (by kernel_rfl) ⟨rfl, rfl, HE10.out⟩⟩
    refine AllReadyH.cons rfl (fun K hK => ?_) AllReadyH.nil
    · go_simp
      have hb : Below w8.drew.heap.size w8.drew ((w8.alloc (.cells #[.int .u8 0] 5)).drew) := (show Below w8.drew.heap.size w8.drew (w8.drew.alloc (.cells #[.int .u8 0] 5)) from (Below.refl _ _).alloc (Nat.le_refl _) _)
      have HEW1 := Lib.hid (HB0.out.trans (hb.mono HB0.out.size))
      have HR5 : Hid (RdV ((w8.alloc (.cells #[.int .u8 0] 5)).drew) (.slice (some ⟨w8.heap.size, 0, none⟩) 1 1) [0]) := Lib.hid (RdV.one w8.drew 0)
      refine hK.out _ _ (HSB.out _ HEW1.out) (fun hHeld => ?_)
      clear hK K hb
      try simp only [Act.put, List.getElem_toArray, List.getElem_cons_zero, List.getElem_cons_succ, List.setIfInBounds_toArray, List.set_cons_zero, List.set_cons_succ]
      have hz1 : ((w8.alloc (.cells #[.int .u8 0] 5)).drew).heap.size = w8.heap.size + 1 := alloc_size _ _
      generalize (w8.alloc (.cells #[.int .u8 0] 5)).drew = W1 at *
      have HZ1 := Lib.hid hz1
      clear hz1
      refine wpAnyH_ready (rs := [2]) (by kernel_rfl) (by simp) (AllReadyH.cons rfl (fun K hK => ?_) AllReadyH.nil)
      rw [if_pos (by rfl)]
      refine wp_nilB0 rfl ?_
      intro W2 g2 ho hg2 hz hb
      have HZ := Lib.hid hz
      clear hz
      have HO2 := Lib.hid (ho.mono HEW1.out.size)
      have HEW2 := Lib.hid (HEW1.out.trans (hb.mono HEW1.out.size))
      subst hg2
      replace HR5 := Lib.hid (HR5.out.call hb)
      have hne : (Value.slice (some ⟨W1.heap.size, 0, none⟩) 0 0).ownBlock ≠ some w8.heap.size := by show some W1.heap.size ≠ some w8.heap.size; intro e; injection e with e; have := HZ1.out; omega
      clear ho hb
      refine hK.out _ _ (HSB.out _ HEW2.out) (fun hHeld => ?_)
      clear hK K
      try simp only [Act.put, List.getElem_toArray, List.getElem_cons_zero, List.getElem_cons_succ, List.setIfInBounds_toArray, List.set_cons_zero, List.set_cons_succ]
      refine wpAnyH_ready (rs := [4]) (by kernel_rfl) (by simp) (AllReadyH.cons rfl (fun K hK => ?_) AllReadyH.nil)
      rw [if_pos (by rfl)]
      obtain ⟨a', c', he, g1, g2', g3, g4⟩ := (HCR.out _ HEW2.out).form
      injection he with e1 e2 e3
      subst e1; subst e3; clear e2
      refine wp_appB (.tmp 56) (.tmp 57) rfl w8.heap.size _ [] C _ _ rfl HO2.out (by rw [HCL.out]; rfl) g1 g4 HLA.out HEW2.out.size ?_
      intro v4 W3 ho4 hg4
      have HO4 := Lib.hid ho4
      have HEW3 := Lib.hid (HEW2.out.trans (hg4.below (fun r hr => HO2.out.base r hr) HEW2.out.size))
      replace HR5 := Lib.hid (HR5.out.grew hg4 hne)
      clear ho4 hg4 hne
      refine hK.out _ _ (HSB.out _ HEW3.out) (fun hHeld => ?_)
      clear hK K
      try simp only [Act.put, List.getElem_toArray, List.getElem_cons_zero, List.getElem_cons_succ, List.setIfInBounds_toArray, List.set_cons_zero, List.set_cons_succ]
      refine wpAnyH_ready (rs := [6]) (by kernel_rfl) (by simp) (AllReadyH.cons rfl (fun K hK => ?_) AllReadyH.nil)
      rw [if_pos (by rfl)]
      obtain ⟨a', c', he, g1, g2', g3, g4⟩ := HR5.out.form
      injection he with e1 e2 e3
      subst e1; subst e3; clear e2
      refine wp_appB (.tmp 58) (.tmp 59) rfl w8.heap.size _ ([] ++ C) [0] _ _ rfl HO4.out rfl g1 g4 HLB.out HEW3.out.size ?_
      intro v6 W9 ho6 hg6
      have HE9 := Lib.hid (HEW3.out.trans (hg6.below (fun r hr => HO4.out.base r hr) HEW3.out.size))
      obtain ⟨a6', c6', rfl, -, -⟩ := ho6.form
      rw [HLL.out]
      clear ho6 hg6 HR5 HO4
      refine hK.out _ _ (HSB.out _ HE9.out) (fun hHeld => ?_)
      clear hK K
      try simp only [Act.put, List.getElem_toArray, List.getElem_cons_zero, List.getElem_cons_succ, List.setIfInBounds_toArray, List.set_cons_zero, List.set_cons_succ]
      refine wpAnyH_ready (rs := [7]) (by kernel_rfl) (by simp) (AllReadyH.cons rfl (fun K hK => ?_) AllReadyH.nil)
      go_simp
      refine (Open_short k n _ _ 65553 _ W9 (by decide) (by decide)).mono ?_
      rintro e W10 ⟨rfl, hb10⟩
      have HE10 := Lib.hid (HE9.out.trans (hb10.mono HE9.out.size))
      clear hb10
      try go_wp2_with fail
      refine hK.out _ _ (HSB.out _ HE10.out) (fun hHeld => ?_)
      clear hK K
      try simp only [Act.put, List.getElem_toArray, List.getElem_cons_zero, List.getElem_cons_succ, List.setIfInBounds_toArray, List.set_cons_zero, List.set_cons_succ]
      refine wpAnyH_take (i := 8) (v := .tuple #[.slice none 0 0, .int .i64 60]) rfl (by kernel_rfl) (by kernel_rfl) (by kernel_rfl) (fun _ _ _ h => nomatch h.1) (Or.inl ⟨by rfl, fun w _ => by go_simp⟩) hHeld ?_
      simp only [Act.put, List.getElem_toArray, List.getElem_cons_zero, List.getElem_cons_succ, List.setIfInBounds_toArray, List.set_cons_zero, List.set_cons_succ]
      refine wpAnyH_take (i := 9) (v := .slice none 0 0) rfl (by kernel_rfl) (by kernel_rfl) (by kernel_rfl) (fun _ _ _ h => nomatch h.1) (Or.inl ⟨by rfl, fun w _ => by go_simp⟩) hHeld ?_
      simp only [Act.put, List.getElem_toArray, List.getElem_cons_zero, List.getElem_cons_succ, List.setIfInBounds_toArray, List.set_cons_zero, List.set_cons_succ]
      refine wpAnyH_take (i := 10) (v := .int .i64 60) rfl (by kernel_rfl) (by kernel_rfl) (by kernel_rfl) (fun _ _ _ h => nomatch h.1) (Or.inl ⟨by rfl, fun w _ => by go_simp⟩) hHeld ?_
      simp only [Act.put, List.getElem_toArray, List.getElem_cons_zero, List.getElem_cons_succ, List.setIfInBounds_toArray, List.set_cons_zero, List.set_cons_succ]
      refine wpAnyH_take (i := 11) (v := .slice none 0 0) rfl (by kernel_rfl) (by kernel_rfl) (by kernel_rfl) (fun _ _ _ h => nomatch h.1) (Or.inl ⟨by rfl, fun w _ => by go_simp⟩) hHeld ?_
      simp only [Act.put, List.getElem_toArray, List.getElem_cons_zero, List.getElem_cons_succ, List.setIfInBounds_toArray, List.set_cons_zero, List.set_cons_succ]
      refine wpAnyH_take (i := 12) (v := .int .i64 60) rfl (by kernel_rfl) (by kernel_rfl) (by kernel_rfl) (fun _ _ _ h => nomatch h.1) (Or.inl ⟨by rfl, fun w _ => by go_simp⟩) hHeld ?_
      simp only [Act.put, List.getElem_toArray, List.getElem_cons_zero, List.getElem_cons_succ, List.setIfInBounds_toArray, List.set_cons_zero, List.set_cons_succ]
      refine wpAnyH_done (by kernel_rfl) ?_ _
      exact ⟨rfl, writes_ex (by kernel_rfl) ⟨rfl, rfl, HE10.out⟩⟩
  rintro f W ⟨h16, h17, hb⟩
  have HKW := Lib.hid (HSB.out _ hb)
  obtain ⟨bx, ox, hax, -, CX⟩ := (HX8.out.call hb).cell (by decide)
  subst hax
  have cx := CX 65535 (by decide)
  rw [HLC.out] at cx
  clear CX hb HSB HB0 HX8 HC8 HCR
  refine hK0 _ _ ?_
  simp only [writes, List.foldl_cons, List.foldl_nil, Act.put, List.setIfInBounds_toArray, List.set_cons_zero, List.set_cons_succ]
  rw [h16, h17]
  go_wp2_with fail
  go_ret
  exact ⟨rfl, HKW.out.below⟩
end Go.Proofs.YtcibbghggfklbaaDoor
