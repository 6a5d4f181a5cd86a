/-
  Package pake: the reference: Shared, proof, Proof, Accept.
-/
import Derived.Test.YtkpecfhcdechmaaDoorJn
import Derived.Test.YtkpecfhcdechmaaDoorPkR
import Derived.Deep.RegionHeld3
namespace Go.Proofs.YtkpecfhcdechmaaDoor
open Go.RowKit
set_option linter.unusedVariables false
set_option linter.unusedSimpArgs false

/-- What the reference's Shared reads in its drawn region. -/
structure RsS (g : Nat) (r c n : Int) (W : World) : Prop where
  c0 : W.cell? ⟨g, 0, none⟩ = some (.int .i64 r)
  c1 : W.cell? ⟨g, 1, none⟩ = some (.int .i64 c)
  c2 : W.cell? ⟨g, 2, none⟩ = some (.int .i64 n)
theorem be8_l2 (a b : Int) : (be8 a ++ be8 b).length = 16 := by rw [List.length_append, be8_len, be8_len]
theorem be8_l3 (a b c : Int) : (be8 a ++ be8 b ++ be8 c).length = 24 := by rw [List.length_append, be8_l2, be8_len]

set_option maxRecDepth 100000 in
set_option maxHeartbeats 3200000 in
theorem rShared_ok1 (c : Int) (n p : Nat) (h : okP 1 c n) (hp : IsEl (p : Int)) (w : World) :
    Calls Tryd.prog 16 #[sidV 1 c n, .int .i64 p] w fun e w' => e = .returned (.tuple #[.agg (bvA (kyP 1 c n p)), .int .i64 0]) ∧ Below w.heap.size w w' := by
  have KC := Lib.hid (fun W => rCheck10_any 1 c n W)
  rw [pkE_ok h] at KC
  have KG := Lib.hid (fun W => hCheck_ok p hp W)
  have KP := Lib.hid (fun W => rPoint_ok 1 c n h W)
  have KZ := Lib.hid (fun W => rElement_any 1 c n p h hp W)
  obtain ⟨X, hX⟩ : ∃ X, kyP 1 c n p = X := ⟨_, rfl⟩
  have HL : Hid (X.length = 32) := Lib.hid (by rw [← hX]; exact kyP_len _ _ _ _)
  have hX2 : tagS (ByteArray.mk #[112, 97, 107, 101]).data.toList (be8 (ptP 1 c n : Nat) ++ be8 (p : Nat) ++ be8 (zP 1 c n p : Nat)) = X := by
    rw [← hX]; unfold kyP; rw [if_pos rfl]; rfl
  rw [hX]
  obtain ⟨y, hy⟩ : ∃ y, ptP 1 c n = y := ⟨_, rfl⟩
  rw [hy] at KP hX2
  obtain ⟨z, hz⟩ : ∃ z, zP 1 c n p = z := ⟨_, rfl⟩
  rw [hz] at KZ hX2
  have HX := Lib.hid hX2
  have KE1 := Lib.hid (fun W => rEight_any (y : Int) W)
  have KE2 := Lib.hid (fun W => rEight_any (p : Int) W)
  have KE3 := Lib.hid (fun W => rEight_any (z : Int) W)
  have HF1 := Lib.hid (ShF.start w 32 1 c n)
  obtain ⟨w1, hw1⟩ : ∃ w1, w1 = shW w 32 1 c n := ⟨_, rfl⟩
  rw [← hw1] at HF1
  unfold sidV at *
  obtain ⟨B1, hB1⟩ : ∃ B, be8 (y : Int) = B := ⟨_, rfl⟩
  obtain ⟨B2, hB2⟩ : ∃ B, be8 (p : Int) = B := ⟨_, rfl⟩
  obtain ⟨B3, hB3⟩ : ∃ B, be8 (z : Int) = B := ⟨_, rfl⟩
  have HL1 : Hid (B1.length = 8) := Lib.hid (by rw [← hB1]; exact be8_len _)
  have HL2 : Hid (B2.length = 8) := Lib.hid (by rw [← hB2]; exact be8_len _)
  have HL3 : Hid (B3.length = 8) := Lib.hid (by rw [← hB3]; exact be8_len _)
  rw [hB1] at KE1 HX
  rw [hB2] at KE2 HX
  rw [hB3] at KE3 HX
  obtain ⟨B4, hB4⟩ : ∃ B, B1 ++ B2 = B := ⟨_, rfl⟩
  have HL4 : Hid (B4.length = 16) := Lib.hid (by rw [← hB4, List.length_append, HL1.out, HL2.out])
  have H4 := Lib.hid hB4
  rw [hB4] at HX
  obtain ⟨B5, hB5⟩ : ∃ B, B4 ++ B3 = B := ⟨_, rfl⟩
  have HL5 : Hid (B5.length = 24) := Lib.hid (by rw [← hB5, List.length_append, HL4.out, HL3.out])
  have H5 := Lib.hid hB5
  rw [hB5] at HX
  clear h hp hX hX2 hy hz hB1 hB2 hB3 hB4 hB5
  go_enter Tryd.func16, Tryd.ntmps16
  go_wp2_with fail
  change Calls _ _ _ (shW w 32 1 c n) _
  rw [← hw1]
  clear hw1
  refine (KC.out _).mono ?_
  rintro e w2 ⟨rfl, hb⟩
  have HF2 := Lib.hid (HF1.out.call hb)
  clear hb HF1 KC
  go_wp2_with fail
  refine (KG.out _).mono ?_
  rintro e wo ⟨rfl, hwo⟩
  rw [hwo]
  clear hwo wo KG
  obtain ⟨a0, a1, a2⟩ := HF2.out.side.cells3
  go_wp2_with fail
  clear a0 a1 a2
  refine (KP.out _).mono ?_
  rintro e w3 ⟨rfl, hb⟩
  have HF3 := Lib.hid (HF2.out.call hb)
  clear hb HF2 KP
  obtain ⟨a0, a1, a2⟩ := HF3.out.side.cells3
  go_wp2_with fail
  clear a0 a1 a2
  have HSB : Hid (∀ W, Below w3.heap.size w3 W → RsS w.heap.size 1 c n W) := Lib.hid (fun W hW => by obtain ⟨a0, a1, a2⟩ := (HF3.out.call hW).side.cells3; exact ⟨a0, a1, a2⟩)
  have HE0 : Hid (Below w3.heap.size w3 w3.drew) := Lib.hid (Below.refl _ _).drew
  refine wp_region_held_drew (S := RsS w.heap.size 1 c n) (by kernel_rfl) (HSB.out _ HE0.out) (fun hHeld => ?_)
  refine wpAnyH_take (i := 0) (v := .int .i64 (y : Int)) rfl (by kernel_rfl) (by kernel_rfl) (by kernel_rfl) (fun _ _ _ h => h) (Or.inl ⟨by rfl, fun w _ => by go_simp⟩) hHeld ?_
  simp only [Act.put, List.getElem_toArray, List.getElem_cons_zero, List.getElem_cons_succ, List.setIfInBounds_toArray, List.set_cons_zero, List.set_cons_succ]
  refine wpAnyH_take (i := 2) (v := .int .i64 (p : Int)) rfl (by kernel_rfl) (by kernel_rfl) (by kernel_rfl) (fun _ _ _ h => h) (Or.inl ⟨by rfl, fun w _ => by go_simp⟩) hHeld ?_
  simp only [Act.put, List.getElem_toArray, List.getElem_cons_zero, List.getElem_cons_succ, List.setIfInBounds_toArray, List.set_cons_zero, List.set_cons_succ]
  refine wpAnyH_take (i := 5) (v := .agg #[.int .i64 1, .int .i64 c, .int .i64 n]) rfl (by kernel_rfl) (by kernel_rfl) (by kernel_rfl) (fun _ _ _ h => h) (Or.inl ⟨by rfl, fun w hw => by obtain ⟨h0, h1, h2⟩ := hw; go_simp⟩) hHeld ?_
  simp only [Act.put, List.getElem_toArray, List.getElem_cons_zero, List.getElem_cons_succ, List.setIfInBounds_toArray, List.set_cons_zero, List.set_cons_succ]
  refine wpAnyH_take (i := 6) (v := .int .i64 (p : Int)) rfl (by kernel_rfl) (by kernel_rfl) (by kernel_rfl) (fun _ _ _ h => h) (Or.inl ⟨by rfl, fun w _ => by go_simp⟩) hHeld ?_
  simp only [Act.put, List.getElem_toArray, List.getElem_cons_zero, List.getElem_cons_succ, List.setIfInBounds_toArray, List.set_cons_zero, List.set_cons_succ]
  refine wpAnyH_ready (rs := [1]) (by kernel_rfl) (by simp) (AllReadyH.cons rfl (fun K0 hK => ?_) AllReadyH.nil)
  rw [if_pos (by rfl)]
  go_simp
  refine (KE1.out _).mono ?_
  rintro e u4 ⟨v4, rfl, ho, hb⟩
  obtain ⟨a4, c4, rfl, -, -⟩ := ho.form
  have HO4 := Lib.hid (ho.mono (B' := w3.heap.size) HE0.out.size)
  have HE1 := Lib.hid (HE0.out.trans (hb.mono HE0.out.size))
  clear ho hb
  try go_wp2_with fail
  refine hK.out _ _ (HSB.out _ HE1.out) (fun hHeld => ?_)
  clear hK K0
  try simp only [Act.put, List.getElem_toArray, List.getElem_cons_zero, List.getElem_cons_succ, List.setIfInBounds_toArray, List.set_cons_zero, List.set_cons_succ]
  refine wpAnyH_ready (rs := [3]) (by kernel_rfl) (by simp) (AllReadyH.cons rfl (fun K0 hK => ?_) AllReadyH.nil)
  rw [if_pos (by rfl)]
  go_simp
  refine (KE2.out _).mono ?_
  rintro e u5 ⟨v5, rfl, ho, hb⟩
  obtain ⟨a5, c5, rfl, -, -⟩ := ho.form
  have HO5 := Lib.hid (ho.mono (B' := w3.heap.size) HE1.out.size)
  have HE2 := Lib.hid (HE1.out.trans (hb.mono HE1.out.size))
  have HO4' := Lib.hid (HO4.out.below hb)
  clear ho hb
  try go_wp2_with fail
  refine hK.out _ _ (HSB.out _ HE2.out) (fun hHeld => ?_)
  clear hK K0
  try simp only [Act.put, List.getElem_toArray, List.getElem_cons_zero, List.getElem_cons_succ, List.setIfInBounds_toArray, List.set_cons_zero, List.set_cons_succ]
  refine wpAnyH_ready (rs := [4]) (by kernel_rfl) (by simp) (AllReadyH.cons rfl (fun K0 hK => ?_) AllReadyH.nil)
  rw [if_pos (by rfl)]
  refine wp_appB (.tmp 31) (.tmp 33) rfl w3.heap.size _ B1 B2 _ _ rfl HO4'.out rfl HO5.out.rdOf HO5.out.nilCap (by rw [HL1.out, HL2.out]; decide) HE2.out.size ?_
  intro v6 u6 ho hg
  rw [H4.out] at ho
  obtain ⟨a6, c6, rfl, -, -⟩ := ho.form
  have HO6 := Lib.hid ho
  have HE3 := Lib.hid (HE2.out.trans (hg.below (fun r hr => HO4'.out.base r hr) HE2.out.size))
  clear ho hg
  refine hK.out _ _ (HSB.out _ HE3.out) (fun hHeld => ?_)
  clear hK K0
  try simp only [Act.put, List.getElem_toArray, List.getElem_cons_zero, List.getElem_cons_succ, List.setIfInBounds_toArray, List.set_cons_zero, List.set_cons_succ]
  refine wpAnyH_ready (rs := [7]) (by kernel_rfl) (by simp) (AllReadyH.cons rfl (fun K0 hK => ?_) AllReadyH.nil)
  rw [if_pos (by rfl)]
  go_simp
  refine (KZ.out _).mono ?_
  rintro e u7 ⟨rfl, hb⟩
  have HE4 := Lib.hid (HE3.out.trans (hb.mono HE3.out.size))
  have HO6' := Lib.hid (HO6.out.below hb)
  clear hb
  try go_wp2_with fail
  refine hK.out _ _ (HSB.out _ HE4.out) (fun hHeld => ?_)
  clear hK K0
  try simp only [Act.put, List.getElem_toArray, List.getElem_cons_zero, List.getElem_cons_succ, List.setIfInBounds_toArray, List.set_cons_zero, List.set_cons_succ]
  refine wpAnyH_ready (rs := [8]) (by kernel_rfl) (by simp) (AllReadyH.cons rfl (fun K0 hK => ?_) AllReadyH.nil)
  rw [if_pos (by rfl)]
  go_simp
  refine (KE3.out _).mono ?_
  rintro e u8 ⟨v8, rfl, ho, hb⟩
  obtain ⟨a8, c8, rfl, -, -⟩ := ho.form
  have HO8 := Lib.hid (ho.mono (B' := w3.heap.size) HE4.out.size)
  have HE5 := Lib.hid (HE4.out.trans (hb.mono HE4.out.size))
  have HO6'' := Lib.hid (HO6'.out.below hb)
  clear ho hb
  try go_wp2_with fail
  refine hK.out _ _ (HSB.out _ HE5.out) (fun hHeld => ?_)
  clear hK K0
  try simp only [Act.put, List.getElem_toArray, List.getElem_cons_zero, List.getElem_cons_succ, List.setIfInBounds_toArray, List.set_cons_zero, List.set_cons_succ]
  refine wpAnyH_ready (rs := [9]) (by kernel_rfl) (by simp) (AllReadyH.cons rfl (fun K0 hK => ?_) AllReadyH.nil)
  rw [if_pos (by rfl)]
  refine wp_appB (.tmp 34) (.tmp 38) rfl w3.heap.size _ B4 B3 _ _ rfl HO6''.out rfl HO8.out.rdOf HO8.out.nilCap (by rw [HL4.out, HL3.out]; decide) HE5.out.size ?_
  intro v9 u9 ho hg
  rw [H5.out] at ho
  obtain ⟨a9, c9, rfl, -, -⟩ := ho.form
  have HO9 := Lib.hid ho
  have HE6 := Lib.hid (HE5.out.trans (hg.below (fun r hr => HO6''.out.base r hr) HE5.out.size))
  clear ho hg
  refine hK.out _ _ (HSB.out _ HE6.out) (fun hHeld => ?_)
  clear hK K0
  try simp only [Act.put, List.getElem_toArray, List.getElem_cons_zero, List.getElem_cons_succ, List.setIfInBounds_toArray, List.set_cons_zero, List.set_cons_succ]
  refine wpAnyH_take (i := 10) (v := .slice a9 B5.length c9) rfl (by kernel_rfl) (by kernel_rfl) (by kernel_rfl) (fun _ _ _ h => h) (Or.inl ⟨by rfl, fun w _ => by go_simp⟩) hHeld ?_
  simp only [Act.put, List.getElem_toArray, List.getElem_cons_zero, List.getElem_cons_succ, List.setIfInBounds_toArray, List.set_cons_zero, List.set_cons_succ]
  refine wpAnyH_done (by kernel_rfl) ?_ _
  have HF9 := Lib.hid (HF3.out.call HE6.out)
  have hc := refTagged ⟨#[112, 97, 107, 101]⟩ a9 c9 B5 u9 HO9.out.rdOf HO9.out.caps.1 HO9.out.caps.2 HO9.out.nilCap (by decide) (by rw [HL5.out]; omega)
  rw [HX.out] at hc
  have HC := Lib.hid hc
  clear hc hHeld
  generalize B5.length = q at *
  go_wp2_with (go_at_call 42; refine HC.out.mono ?_; rintro e w7 ⟨rfl, hb⟩; refine Hid.out ?_)
  refine Lib.hid ?_
  have HF7 := Lib.hid (HF9.out.call hb)
  clear hb HF9 HC
  go_wp2_with (refine wpList_storeA rfl 32 (.tmp 4) (.tmp 41) rfl (w.heap.size + 1) (bvA X) rfl rfl 32 _ HF7.out.key (key_sz _ HL.out) (key_old _ HL.out) (bvA_one _) ?_)
  intro w8 h8 hg8
  have hB8 := grown_below HF7.out.below hg8 (by omega) (by have := HF7.out.key.lt; omega)
  go_wp2_with fail
  refine bodyPost_ret (v := .tuple #[.agg (bvA X), .int .i64 0]) ?_ rfl ⟨rfl, hB8⟩
  exact results_cell_row_tmp rfl _ _ (w.heap.size + 1) 32 _ (0, 0) _ rfl h8 key_und rfl (key_sz _ HL.out) _ rfl

set_option maxRecDepth 100000 in
set_option maxHeartbeats 3200000 in
theorem rShared_ok2 (c : Int) (n p : Nat) (h : okP 2 c n) (hp : IsEl (p : Int)) (w : World) :
    Calls Tryd.prog 16 #[sidV 2 c n, .int .i64 p] w fun e w' => e = .returned (.tuple #[.agg (bvA (kyP 2 c n p)), .int .i64 0]) ∧ Below w.heap.size w w' := by
  have KC := Lib.hid (fun W => rCheck10_any 2 c n W)
  rw [pkE_ok h] at KC
  have KG := Lib.hid (fun W => hCheck_ok p hp W)
  have KP := Lib.hid (fun W => rPoint_ok 2 c n h W)
  have KZ := Lib.hid (fun W => rElement_any 2 c n p h hp W)
  obtain ⟨X, hX⟩ : ∃ X, kyP 2 c n p = X := ⟨_, rfl⟩
  have HL : Hid (X.length = 32) := Lib.hid (by rw [← hX]; exact kyP_len _ _ _ _)
  have hX2 : tagS (ByteArray.mk #[112, 97, 107, 101]).data.toList (be8 (p : Nat) ++ be8 (ptP 2 c n : Nat) ++ be8 (zP 2 c n p : Nat)) = X := by
    rw [← hX]; unfold kyP; rw [if_neg (by decide)]; rfl
  rw [hX]
  obtain ⟨y, hy⟩ : ∃ y, ptP 2 c n = y := ⟨_, rfl⟩
  rw [hy] at KP hX2
  obtain ⟨z, hz⟩ : ∃ z, zP 2 c n p = z := ⟨_, rfl⟩
  rw [hz] at KZ hX2
  have HX := Lib.hid hX2
  have KE1 := Lib.hid (fun W => rEight_any (p : Int) W)
  have KE2 := Lib.hid (fun W => rEight_any (y : Int) W)
  have KE3 := Lib.hid (fun W => rEight_any (z : Int) W)
  have HF1 := Lib.hid (ShF.start w 32 2 c n)
  obtain ⟨w1, hw1⟩ : ∃ w1, w1 = shW w 32 2 c n := ⟨_, rfl⟩
  rw [← hw1] at HF1
  unfold sidV at *
  obtain ⟨B1, hB1⟩ : ∃ B, be8 (p : Int) = B := ⟨_, rfl⟩
  obtain ⟨B2, hB2⟩ : ∃ B, be8 (y : Int) = B := ⟨_, rfl⟩
  obtain ⟨B3, hB3⟩ : ∃ B, be8 (z : Int) = B := ⟨_, rfl⟩
  have HL1 : Hid (B1.length = 8) := Lib.hid (by rw [← hB1]; exact be8_len _)
  have HL2 : Hid (B2.length = 8) := Lib.hid (by rw [← hB2]; exact be8_len _)
  have HL3 : Hid (B3.length = 8) := Lib.hid (by rw [← hB3]; exact be8_len _)
  rw [hB1] at KE1 HX
  rw [hB2] at KE2 HX
  rw [hB3] at KE3 HX
  obtain ⟨B4, hB4⟩ : ∃ B, B1 ++ B2 = B := ⟨_, rfl⟩
  have HL4 : Hid (B4.length = 16) := Lib.hid (by rw [← hB4, List.length_append, HL1.out, HL2.out])
  have H4 := Lib.hid hB4
  rw [hB4] at HX
  obtain ⟨B5, hB5⟩ : ∃ B, B4 ++ B3 = B := ⟨_, rfl⟩
  have HL5 : Hid (B5.length = 24) := Lib.hid (by rw [← hB5, List.length_append, HL4.out, HL3.out])
  have H5 := Lib.hid hB5
  rw [hB5] at HX
  clear h hp hX hX2 hy hz hB1 hB2 hB3 hB4 hB5
  go_enter Tryd.func16, Tryd.ntmps16
  go_wp2_with fail
  change Calls _ _ _ (shW w 32 2 c n) _
  rw [← hw1]
  clear hw1
  refine (KC.out _).mono ?_
  rintro e w2 ⟨rfl, hb⟩
  have HF2 := Lib.hid (HF1.out.call hb)
  clear hb HF1 KC
  go_wp2_with fail
  refine (KG.out _).mono ?_
  rintro e wo ⟨rfl, hwo⟩
  rw [hwo]
  clear hwo wo KG
  obtain ⟨a0, a1, a2⟩ := HF2.out.side.cells3
  go_wp2_with fail
  clear a0 a1 a2
  refine (KP.out _).mono ?_
  rintro e w3 ⟨rfl, hb⟩
  have HF3 := Lib.hid (HF2.out.call hb)
  clear hb HF2 KP
  obtain ⟨a0, a1, a2⟩ := HF3.out.side.cells3
  go_wp2_with fail
  clear a0 a1 a2
  have HSB : Hid (∀ W, Below w3.heap.size w3 W → RsS w.heap.size 2 c n W) := Lib.hid (fun W hW => by obtain ⟨a0, a1, a2⟩ := (HF3.out.call hW).side.cells3; exact ⟨a0, a1, a2⟩)
  have HE0 : Hid (Below w3.heap.size w3 w3.drew) := Lib.hid (Below.refl _ _).drew
  refine wp_region_held_drew (S := RsS w.heap.size 2 c n) (by kernel_rfl) (HSB.out _ HE0.out) (fun hHeld => ?_)
  refine wpAnyH_take (i := 0) (v := .int .i64 (p : Int)) rfl (by kernel_rfl) (by kernel_rfl) (by kernel_rfl) (fun _ _ _ h => h) (Or.inl ⟨by rfl, fun w _ => by go_simp⟩) hHeld ?_
  simp only [Act.put, List.getElem_toArray, List.getElem_cons_zero, List.getElem_cons_succ, List.setIfInBounds_toArray, List.set_cons_zero, List.set_cons_succ]
  refine wpAnyH_take (i := 2) (v := .int .i64 (y : Int)) rfl (by kernel_rfl) (by kernel_rfl) (by kernel_rfl) (fun _ _ _ h => h) (Or.inl ⟨by rfl, fun w _ => by go_simp⟩) hHeld ?_
  simp only [Act.put, List.getElem_toArray, List.getElem_cons_zero, List.getElem_cons_succ, List.setIfInBounds_toArray, List.set_cons_zero, List.set_cons_succ]
  refine wpAnyH_take (i := 5) (v := .agg #[.int .i64 2, .int .i64 c, .int .i64 n]) rfl (by kernel_rfl) (by kernel_rfl) (by kernel_rfl) (fun _ _ _ h => h) (Or.inl ⟨by rfl, fun w hw => by obtain ⟨h0, h1, h2⟩ := hw; go_simp⟩) hHeld ?_
  simp only [Act.put, List.getElem_toArray, List.getElem_cons_zero, List.getElem_cons_succ, List.setIfInBounds_toArray, List.set_cons_zero, List.set_cons_succ]
  refine wpAnyH_take (i := 6) (v := .int .i64 (p : Int)) rfl (by kernel_rfl) (by kernel_rfl) (by kernel_rfl) (fun _ _ _ h => h) (Or.inl ⟨by rfl, fun w _ => by go_simp⟩) hHeld ?_
  simp only [Act.put, List.getElem_toArray, List.getElem_cons_zero, List.getElem_cons_succ, List.setIfInBounds_toArray, List.set_cons_zero, List.set_cons_succ]
  refine wpAnyH_ready (rs := [1]) (by kernel_rfl) (by simp) (AllReadyH.cons rfl (fun K0 hK => ?_) AllReadyH.nil)
  rw [if_pos (by rfl)]
  go_simp
  refine (KE1.out _).mono ?_
  rintro e u4 ⟨v4, rfl, ho, hb⟩
  obtain ⟨a4, c4, rfl, -, -⟩ := ho.form
  have HO4 := Lib.hid (ho.mono (B' := w3.heap.size) HE0.out.size)
  have HE1 := Lib.hid (HE0.out.trans (hb.mono HE0.out.size))
  clear ho hb
  try go_wp2_with fail
  refine hK.out _ _ (HSB.out _ HE1.out) (fun hHeld => ?_)
  clear hK K0
  try simp only [Act.put, List.getElem_toArray, List.getElem_cons_zero, List.getElem_cons_succ, List.setIfInBounds_toArray, List.set_cons_zero, List.set_cons_succ]
  refine wpAnyH_ready (rs := [3]) (by kernel_rfl) (by simp) (AllReadyH.cons rfl (fun K0 hK => ?_) AllReadyH.nil)
  rw [if_pos (by rfl)]
  go_simp
  refine (KE2.out _).mono ?_
  rintro e u5 ⟨v5, rfl, ho, hb⟩
  obtain ⟨a5, c5, rfl, -, -⟩ := ho.form
  have HO5 := Lib.hid (ho.mono (B' := w3.heap.size) HE1.out.size)
  have HE2 := Lib.hid (HE1.out.trans (hb.mono HE1.out.size))
  have HO4' := Lib.hid (HO4.out.below hb)
  clear ho hb
  try go_wp2_with fail
  refine hK.out _ _ (HSB.out _ HE2.out) (fun hHeld => ?_)
  clear hK K0
  try simp only [Act.put, List.getElem_toArray, List.getElem_cons_zero, List.getElem_cons_succ, List.setIfInBounds_toArray, List.set_cons_zero, List.set_cons_succ]
  refine wpAnyH_ready (rs := [4]) (by kernel_rfl) (by simp) (AllReadyH.cons rfl (fun K0 hK => ?_) AllReadyH.nil)
  rw [if_pos (by rfl)]
  refine wp_appB (.tmp 31) (.tmp 33) rfl w3.heap.size _ B1 B2 _ _ rfl HO4'.out rfl HO5.out.rdOf HO5.out.nilCap (by rw [HL1.out, HL2.out]; decide) HE2.out.size ?_
  intro v6 u6 ho hg
  rw [H4.out] at ho
  obtain ⟨a6, c6, rfl, -, -⟩ := ho.form
  have HO6 := Lib.hid ho
  have HE3 := Lib.hid (HE2.out.trans (hg.below (fun r hr => HO4'.out.base r hr) HE2.out.size))
  clear ho hg
  refine hK.out _ _ (HSB.out _ HE3.out) (fun hHeld => ?_)
  clear hK K0
  try simp only [Act.put, List.getElem_toArray, List.getElem_cons_zero, List.getElem_cons_succ, List.setIfInBounds_toArray, List.set_cons_zero, List.set_cons_succ]
  refine wpAnyH_ready (rs := [7]) (by kernel_rfl) (by simp) (AllReadyH.cons rfl (fun K0 hK => ?_) AllReadyH.nil)
  rw [if_pos (by rfl)]
  go_simp
  refine (KZ.out _).mono ?_
  rintro e u7 ⟨rfl, hb⟩
  have HE4 := Lib.hid (HE3.out.trans (hb.mono HE3.out.size))
  have HO6' := Lib.hid (HO6.out.below hb)
  clear hb
  try go_wp2_with fail
  refine hK.out _ _ (HSB.out _ HE4.out) (fun hHeld => ?_)
  clear hK K0
  try simp only [Act.put, List.getElem_toArray, List.getElem_cons_zero, List.getElem_cons_succ, List.setIfInBounds_toArray, List.set_cons_zero, List.set_cons_succ]
  refine wpAnyH_ready (rs := [8]) (by kernel_rfl) (by simp) (AllReadyH.cons rfl (fun K0 hK => ?_) AllReadyH.nil)
  rw [if_pos (by rfl)]
  go_simp
  refine (KE3.out _).mono ?_
  rintro e u8 ⟨v8, rfl, ho, hb⟩
  obtain ⟨a8, c8, rfl, -, -⟩ := ho.form
  have HO8 := Lib.hid (ho.mono (B' := w3.heap.size) HE4.out.size)
  have HE5 := Lib.hid (HE4.out.trans (hb.mono HE4.out.size))
  have HO6'' := Lib.hid (HO6'.out.below hb)
  clear ho hb
  try go_wp2_with fail
  refine hK.out _ _ (HSB.out _ HE5.out) (fun hHeld => ?_)
  clear hK K0
  try simp only [Act.put, List.getElem_toArray, List.getElem_cons_zero, List.getElem_cons_succ, List.setIfInBounds_toArray, List.set_cons_zero, List.set_cons_succ]
  refine wpAnyH_ready (rs := [9]) (by kernel_rfl) (by simp) (AllReadyH.cons rfl (fun K0 hK => ?_) AllReadyH.nil)
  rw [if_pos (by rfl)]
  refine wp_appB (.tmp 34) (.tmp 38) rfl w3.heap.size _ B4 B3 _ _ rfl HO6''.out rfl HO8.out.rdOf HO8.out.nilCap (by rw [HL4.out, HL3.out]; decide) HE5.out.size ?_
  intro v9 u9 ho hg
  rw [H5.out] at ho
  obtain ⟨a9, c9, rfl, -, -⟩ := ho.form
  have HO9 := Lib.hid ho
  have HE6 := Lib.hid (HE5.out.trans (hg.below (fun r hr => HO6''.out.base r hr) HE5.out.size))
  clear ho hg
  refine hK.out _ _ (HSB.out _ HE6.out) (fun hHeld => ?_)
  clear hK K0
  try simp only [Act.put, List.getElem_toArray, List.getElem_cons_zero, List.getElem_cons_succ, List.setIfInBounds_toArray, List.set_cons_zero, List.set_cons_succ]
  refine wpAnyH_take (i := 10) (v := .slice a9 B5.length c9) rfl (by kernel_rfl) (by kernel_rfl) (by kernel_rfl) (fun _ _ _ h => h) (Or.inl ⟨by rfl, fun w _ => by go_simp⟩) hHeld ?_
  simp only [Act.put, List.getElem_toArray, List.getElem_cons_zero, List.getElem_cons_succ, List.setIfInBounds_toArray, List.set_cons_zero, List.set_cons_succ]
  refine wpAnyH_done (by kernel_rfl) ?_ _
  have HF9 := Lib.hid (HF3.out.call HE6.out)
  have hc := refTagged ⟨#[112, 97, 107, 101]⟩ a9 c9 B5 u9 HO9.out.rdOf HO9.out.caps.1 HO9.out.caps.2 HO9.out.nilCap (by decide) (by rw [HL5.out]; omega)
  rw [HX.out] at hc
  have HC := Lib.hid hc
  clear hc hHeld
  generalize B5.length = q at *
  go_wp2_with (go_at_call 42; refine HC.out.mono ?_; rintro e w7 ⟨rfl, hb⟩; refine Hid.out ?_)
  refine Lib.hid ?_
  have HF7 := Lib.hid (HF9.out.call hb)
  clear hb HF9 HC
  go_wp2_with (refine wpList_storeA rfl 32 (.tmp 4) (.tmp 41) rfl (w.heap.size + 1) (bvA X) rfl rfl 32 _ HF7.out.key (key_sz _ HL.out) (key_old _ HL.out) (bvA_one _) ?_)
  intro w8 h8 hg8
  have hB8 := grown_below HF7.out.below hg8 (by omega) (by have := HF7.out.key.lt; omega)
  go_wp2_with fail
  refine bodyPost_ret (v := .tuple #[.agg (bvA X), .int .i64 0]) ?_ rfl ⟨rfl, hB8⟩
  exact results_cell_row_tmp rfl _ _ (w.heap.size + 1) 32 _ (0, 0) _ rfl h8 key_und rfl (key_sz _ HL.out) _ rfl

set_option maxRecDepth 100000 in
set_option maxHeartbeats 1600000 in
theorem rShared_bad1 (r c s p : Int) (h : ¬ okP r c s) (w : World) :
    Calls Tryd.prog 16 #[sidV r c s, .int .i64 p] w fun e w' => e = .returned (.tuple #[.agg (bvA zK), .int .i64 100]) ∧ Below w.heap.size w w' := by
  have KP := Lib.hid (fun W => rCheck10_any r c s W)
  rw [pkE_bad h] at KP
  have HL := Lib.hid zK_len
  have HF1 := Lib.hid (ShF.start w 32 r c s)
  obtain ⟨w1, hw1⟩ : ∃ w1, w1 = shW w 32 r c s := ⟨_, rfl⟩
  rw [← hw1] at HF1
  unfold sidV at *
  clear h
  go_enter Tryd.func16, Tryd.ntmps16
  go_wp2_with fail
  change Calls _ _ _ (shW w 32 r c s) _
  rw [← hw1]
  clear hw1
  refine (KP.out _).mono ?_
  rintro e w2 ⟨rfl, hb⟩
  have HF2 := Lib.hid (HF1.out.call hb)
  clear hb HF1 KP
  go_wp2_with (first
    | (refine wpList_built rfl 32 #[] rfl [] rfl (bvA zK) (by kernel_rfl) ?_)
    | (refine wpList_storeA rfl 32 (.tmp 4) (.tmp 18) rfl (w.heap.size + 1) (bvA zK) rfl rfl 32 _ HF2.out.key (key_sz _ HL.out) (key_old _ HL.out) (bvA_one _) ?_))
  intro w8 h8 hg8
  have hB8 := grown_below HF2.out.below hg8 (by omega) (by have := HF2.out.key.lt; omega)
  go_wp2_with fail
  refine bodyPost_ret (v := .tuple #[.agg (bvA zK), .int .i64 100]) ?_ rfl ⟨rfl, hB8⟩
  exact results_cell_row_tmp rfl _ _ (w.heap.size + 1) 32 _ (0, 0) _ rfl h8 key_und rfl (key_sz _ HL.out) _ rfl
set_option maxRecDepth 100000 in
set_option maxHeartbeats 1600000 in
theorem rShared_bad2 (r c : Int) (n : Nat) (p : Int) (h : okP r c n) (hp : ¬ IsEl p) (w : World) (hT : Tab w) :
    Calls Tryd.prog 16 #[sidV r c n, .int .i64 p] w fun e w' => e = .returned (.tuple #[.agg (bvA zK), .int .i64 100]) ∧ Below w.heap.size w w' := by
  have HT := Lib.hid hT
  have KP := Lib.hid (fun W => rCheck10_any r c n W)
  rw [pkE_ok h] at KP
  have KG := Lib.hid (fun W => hCheck_bad p hp W)
  have HL := Lib.hid zK_len
  have HF1 := Lib.hid (ShF.start w 32 r c n)
  obtain ⟨w1, hw1⟩ : ∃ w1, w1 = shW w 32 r c n := ⟨_, rfl⟩
  rw [← hw1] at HF1
  unfold sidV at *
  clear h hT hp
  go_enter Tryd.func16, Tryd.ntmps16
  go_wp2_with fail
  change Calls _ _ _ (shW w 32 r c n) _
  rw [← hw1]
  clear hw1
  refine (KP.out _).mono ?_
  rintro e w2 ⟨rfl, hb⟩
  have HF2 := Lib.hid (HF1.out.call hb)
  clear hb HF1 KP
  go_wp2_with fail
  refine (KG.out _).mono ?_
  rintro e wo ⟨rfl, hwo⟩
  rw [hwo]
  clear hwo wo
  have HF3 := HF2
  go_wp2_with (first
    | (refine wpList_built rfl 32 #[] rfl [] rfl (bvA zK) (by kernel_rfl) ?_)
    | (refine wpList_storeA rfl 32 (.tmp 4) (.tmp 18) rfl (w.heap.size + 1) (bvA zK) rfl rfl 32 _ HF3.out.key (key_sz _ HL.out) (key_old _ HL.out) (bvA_one _) ?_))
  intro w8 h8 hg8
  have hB8 := grown_below HF3.out.below hg8 (by omega) (by have := HF3.out.key.lt; omega)
  go_wp2_with fail
  refine bodyPost_ret (v := .tuple #[.agg (bvA zK), .int .i64 100]) ?_ rfl ⟨rfl, hB8⟩
  exact results_cell_row_tmp rfl _ _ (w.heap.size + 1) 32 _ (0, 0) _ rfl h8 key_und rfl (key_sz _ HL.out) _ rfl
theorem rShared_any (r c s p : Int) (w : World) (hT : Tab w) :
    Calls Tryd.prog 16 #[sidV r c s, .int .i64 p] w fun e w' => e = .returned (.tuple #[.agg (bvA (kyW r c s p)), .int .i64 (shE r c s p)]) ∧ Below w.heap.size w w' := by
  by_cases h : okS r c s p
  · obtain ⟨n, q, rfl, rfl⟩ := h.nats
    rw [kyW_ok h, shE_ok h]
    obtain ⟨h1, h2⟩ := h
    obtain rfl | rfl : r = 1 ∨ r = 2 := by unfold okP at h1; omega
    · exact rShared_ok1 c n q h1 h2 w
    · exact rShared_ok2 c n q h1 h2 w
  · rw [kyW_bad h, shE_bad h]
    by_cases h1 : okP r c s
    · obtain ⟨n, rfl⟩ : ∃ n : Nat, s = n := ⟨s.toNat, by have := h1.2.2.1; omega⟩
      exact rShared_bad2 r c n p h1 (fun h2 => h ⟨h1, h2⟩) w hT
    · exact rShared_bad1 r c s p h1 w
end Go.Proofs.YtkpecfhcdechmaaDoor
