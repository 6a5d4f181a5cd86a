/-
  Package pake: Accept.
-/
import Derived.Test.YtkpecfhcdechmaaDoorJi
import Derived.Deep.RegionHeld3
namespace Go.Proofs.YtkpecfhcdechmaaDoor
open Go.RowKit
set_option linter.unusedVariables false
set_option linter.unusedSimpArgs false

open Classical in
/-- What Accept returns. -/
noncomputable def acW (r c s p : Int) (d : List UInt8) : Bool := if okS r c s p then deq d (prP (kyW r c s p) (roB (3 - r))) else false
theorem acW_ok {r c s p : Int} (h : okS r c s p) (d : List UInt8) : acW r c s p d = deq d (prP (kyW r c s p) (roB (3 - r))) := if_pos h
theorem acW_bad {r c s p : Int} (h : ¬ okS r c s p) (d : List UInt8) : acW r c s p d = false := if_neg h
def shD (w : World) (r c n : Int) (d : List UInt8) : World := (w.alloc (.cells #[.int .i64 r, .int .i64 c, .int .i64 n] 23)).alloc (.cells (bvA d) 31)
theorem ShF.startD (w : World) (r c n : Int) (d : List UInt8) : ShF w 31 r c n d (shD w r c n d) := by
  refine ⟨((Below.refl _ _).alloc (Nat.le_refl _) _).alloc (by simp) _, (CB.new w _ _).alloc _, ?_⟩
  have h := BB.new (w.alloc (.cells #[.int .i64 r, .int .i64 c, .int .i64 n] 23)) 31 d
  rw [show (w.alloc (.cells #[.int .i64 r, .int .i64 c, .int .i64 n] 23)).heap.size = w.heap.size + 1 by simp] at h
  exact h
/-- What Accept's last region reads. -/
structure AcS (g gd gk : Nat) (r : Int) (d K : List UInt8) (W : World) : Prop where
  role : W.cell? ⟨g, 0, none⟩ = some (.int .i64 r)
  dig : BB W gd 31 d
  key : BB W gk 32 K

set_option maxRecDepth 100000 in
set_option maxHeartbeats 1600000 in
theorem Accept_any (r c n p : Int) (d : List UInt8) (hd : d.length = 32) (w : World) (hT : Tab w) :
    Calls Tryd.prog 20 #[sidV r c n, .int .i64 p, .agg (bvA d)] w fun e w' => e = .returned (.tuple #[.bool (acW r c n p d), .int .i64 (shE r c n p)]) ∧ Below w.heap.size w w' := by
  have HT := Lib.hid hT
  have HLD := Lib.hid hd
  have KP := Lib.hid (fun W h2 => Shared_any r c n p W h2)
  have KD := Lib.hid (fun W h2 => proofOf_any (kyW r c n p) (kyW_len r c n p) (3 - r) W h2)
  have HLK := Lib.hid (kyW_len r c n p)
  have HL := Lib.hid (prP_len (kyW r c n p) (roB (3 - r)))
  have HW := Lib.hid (fun h => acW_ok (r := r) (c := c) (s := n) (p := p) h d)
  have HV := Lib.hid (fun h => acW_bad (r := r) (c := c) (s := n) (p := p) h d)
  obtain ⟨K, hK⟩ : ∃ K, kyW r c n p = K := ⟨_, rfl⟩
  rw [hK] at KP KD HLK HW HL
  obtain ⟨D, hD⟩ : ∃ D, prP K (roB (3 - r)) = D := ⟨_, rfl⟩
  rw [hD] at HL HW KD
  obtain ⟨b, hb0⟩ : ∃ b, acW r c n p d = b := ⟨_, rfl⟩
  rw [hb0] at HW HV ⊢
  have HF1 := Lib.hid (ShF.startD w r c n d)
  obtain ⟨w1, hw1⟩ : ∃ w1, w1 = shD w r c n d := ⟨_, rfl⟩
  rw [← hw1] at HF1
  by_cases hok : okS r c n p
  · rw [shE_ok hok] at KP ⊢
    have KO := Lib.hid (fun W => other_any r hok.1.1 W)
    have HEQ : Hid (∀ W, (Op.equalIn 10000 31 (.agg (bvA d)) (.agg (bvA D))).run Tryd.prog W = .ok b W) := Lib.hid (fun W => by rw [HW.out hok]; exact equal_bv d D HLD.out HL.out W)
    obtain ⟨ro, hro⟩ : ∃ ro, 3 - r = ro := ⟨_, rfl⟩
    rw [hro] at KO KD
    unfold sidV at *
    clear hT hK hD HW HV hok hb0 hd hro
    go_enter Tryd.func20, Tryd.ntmps20
    have c0 : w1.cell? ⟨w.heap.size, 0, none⟩ = some (.int .i64 r) := HF1.out.side.cell 0
    go_wp2_with fail
    change Calls _ _ _ (shD w r c n d) _
    rw [← hw1]
    clear hw1 c0
    refine (KP.out _ (HF1.out.tab HT.out)).mono ?_
    rintro e w2 ⟨rfl, hb⟩
    have HF2 := Lib.hid (HF1.out.call hb)
    clear hb HF1 KP
    go_wp2_with (refine wpList_storeA rfl 32 (.tmp 8) (.tmp 13) rfl w2.heap.size (bvA K) rfl rfl 32 _ (BB.new w2 _ zK) (key_sz _ HLK.out) (key_old _ HLK.out) (bvA_one _) ?_)
    intro w3 h3 hg3
    obtain ⟨hk3, hb3⟩ := key_stored h3 hg3
    have HK3 := Lib.hid hk3
    have HF3 := Lib.hid (HF2.out.call hb3)
    clear h3 hg3 hk3 hb3 HF2
    generalize w2.heap.size = gk at *
    go_wp2_with fail
    have HSB : Hid (∀ W, Below w3.heap.size w3 W → AcS w.heap.size (w.heap.size + 1) gk r d K W) := Lib.hid (fun W hW => ⟨(HF3.out.call hW).side.cell 0, (HF3.out.call hW).key, HK3.out.below hW HK3.out.lt⟩)
    have HE0 : Hid (Below w3.heap.size w3 w3.drew) := Lib.hid (Below.refl _ _).drew
    have HSK := Lib.hid (key_szl K HLK.out)
    have HSD := Lib.hid (digP_szl d HLD.out)
    refine wp_region_held_drew (S := AcS w.heap.size (w.heap.size + 1) gk r d K) (by kernel_rfl) (HSB.out _ HE0.out) (fun hHeld => ?_)
    refine wpAnyH_take (i := 0) (v := .agg (bvA d)) rfl (by kernel_rfl) (by kernel_rfl) (by kernel_rfl) (fun _ _ _ h => h) (yieldsIf_load_mid (by rfl) 31 (.tmp 5) rfl (w.heap.size + 1) 0 rfl (d.map bv) _ (fun _ h => h.dig.range) digP_und rfl HSD.out) hHeld ?_
    simp only [Act.put, List.getElem_toArray, List.getElem_cons_zero, List.getElem_cons_succ, List.setIfInBounds_toArray, List.set_cons_zero, List.set_cons_succ]
    refine wpAnyH_take (i := 1) (v := .agg (bvA K)) rfl (by kernel_rfl) (by kernel_rfl) (by kernel_rfl) (fun _ _ _ h => h) (yieldsIf_load_mid (by rfl) 32 (.tmp 8) rfl gk 0 rfl (K.map bv) _ (fun _ h => h.key.range) key_und rfl HSK.out) hHeld ?_
    simp only [Act.put, List.getElem_toArray, List.getElem_cons_zero, List.getElem_cons_succ, List.setIfInBounds_toArray, List.set_cons_zero, List.set_cons_succ]
    refine wpAnyH_take (i := 2) (v := .pointer (some ⟨w.heap.size, 0, none⟩)) rfl (by kernel_rfl) (by kernel_rfl) (by kernel_rfl) (fun _ _ _ h => h) (Or.inl ⟨by rfl, fun w _ => by go_simp⟩) hHeld ?_
    simp only [Act.put, List.getElem_toArray, List.getElem_cons_zero, List.getElem_cons_succ, List.setIfInBounds_toArray, List.set_cons_zero, List.set_cons_succ]
    refine wpAnyH_take (i := 3) (v := .int .i64 r) rfl (by kernel_rfl) (by kernel_rfl) (by kernel_rfl) (fun _ _ _ h => h) (Or.inl ⟨by rfl, fun w hw => by have h0 := hw.role; go_simp⟩) hHeld ?_
    simp only [Act.put, List.getElem_toArray, List.getElem_cons_zero, List.getElem_cons_succ, List.setIfInBounds_toArray, List.set_cons_zero, List.set_cons_succ]
    refine wpAnyH_ready (rs := [4]) (by kernel_rfl) (by simp) (AllReadyH.cons rfl (fun K0 hK => ?_) AllReadyH.nil)
    rw [if_pos (by rfl)]
    go_simp
    refine (KO.out _).mono ?_
    rintro e wo ⟨rfl, hwo⟩
    rw [hwo]
    clear hwo wo
    try go_wp2_with fail
    refine hK.out _ _ (HSB.out _ HE0.out) (fun hHeld => ?_)
    clear hK K0
    try simp only [Act.put, List.getElem_toArray, List.getElem_cons_zero, List.getElem_cons_succ, List.setIfInBounds_toArray, List.set_cons_zero, List.set_cons_succ]
    refine wpAnyH_ready (rs := [5]) (by kernel_rfl) (by simp) (AllReadyH.cons rfl (fun K0 hK => ?_) AllReadyH.nil)
    rw [if_pos (by rfl)]
    go_simp
    refine (KD.out _ ((HF3.out.call HE0.out).tab HT.out)).mono ?_
    rintro e w5 ⟨rfl, hb⟩
    have HE1 := Lib.hid (HE0.out.trans (hb.mono HE0.out.size))
    clear hb
    try go_wp2_with fail
    refine hK.out _ _ (HSB.out _ HE1.out) (fun hHeld => ?_)
    clear hK K0
    try simp only [Act.put, List.getElem_toArray, List.getElem_cons_zero, List.getElem_cons_succ, List.setIfInBounds_toArray, List.set_cons_zero, List.set_cons_succ]
    refine wpAnyH_take (i := 6) (v := .bool b) rfl (by kernel_rfl) (by kernel_rfl) (by kernel_rfl) (fun _ _ _ h => h) (Or.inl ⟨by rfl, fun w _ => run_eqD (.tmp 18) (.tmp 23) (bvA d) (bvA D) b rfl rfl rfl (HEQ.out w)⟩) hHeld ?_
    simp only [Act.put, List.getElem_toArray, List.getElem_cons_zero, List.getElem_cons_succ, List.setIfInBounds_toArray, List.set_cons_zero, List.set_cons_succ]
    refine wpAnyH_take (i := 7) (v := .bool b) rfl (by kernel_rfl) (by kernel_rfl) (by kernel_rfl) (fun _ _ _ h => h) (Or.inl ⟨by rfl, fun w _ => by go_simp⟩) hHeld ?_
    simp only [Act.put, List.getElem_toArray, List.getElem_cons_zero, List.getElem_cons_succ, List.setIfInBounds_toArray, List.set_cons_zero, List.set_cons_succ]
    refine wpAnyH_take (i := 8) (v := .int .i64 0) rfl (by kernel_rfl) (by kernel_rfl) (by kernel_rfl) (fun _ _ _ h => h) (Or.inl ⟨by rfl, fun w _ => by go_simp⟩) hHeld ?_
    simp only [Act.put, List.getElem_toArray, List.getElem_cons_zero, List.getElem_cons_succ, List.setIfInBounds_toArray, List.set_cons_zero, List.set_cons_succ]
    refine wpAnyH_done (by kernel_rfl) ?_ _
    go_wp2_with fail
    go_ret2
    exact ⟨rfl, (HF3.out.call HE1.out).below⟩
  · rw [shE_bad hok] at KP ⊢
    have hDD := HV.out hok
    subst hDD
    unfold sidV at *
    clear hT hK hD HW HV hok KD
    go_enter Tryd.func20, Tryd.ntmps20
    go_wp2_with fail
    change Calls _ _ _ (shD w r c n d) _
    rw [← hw1]
    clear hw1
    refine (KP.out _ (HF1.out.tab HT.out)).mono ?_
    rintro e w2 ⟨rfl, hb⟩
    have HF2 := Lib.hid (HF1.out.call hb)
    clear hb HF1 KP
    go_wp2_with (refine wpList_storeA rfl 32 (.tmp 8) (.tmp 13) rfl w2.heap.size (bvA K) rfl rfl 32 _ (BB.new w2 _ zK) (key_sz _ HLK.out) (key_old _ HLK.out) (bvA_one _) ?_)
    intro w3 h3 hg3
    obtain ⟨hk3, hb3⟩ := key_stored h3 hg3
    have HF3 := Lib.hid (HF2.out.call hb3)
    clear h3 hg3 hk3 hb3 HF2
    go_wp2_with fail
    go_ret2
    exact ⟨rfl, HF3.out.below⟩
end Go.Proofs.YtkpecfhcdechmaaDoor
