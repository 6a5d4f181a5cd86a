/-
  The reference of vector: Join, Meet.
-/
import Derived.Test.YtfdfaajjlangjaaMi
namespace Go.Proofs.Ytfdfaajjlangjaa
open Go.RowKit
set_option linter.unusedVariables false
set_option linter.unusedSimpArgs false

/-- A slice of one dot, in a drawn region. -/
theorem wp_oneDt {o : Oper} {a : Act} {w : World} {K : Act → World → Prop} {Q : Exit → Act → World → Prop} (s : Dt) (x : Operand) (ho : o.op = .buildSlice 22 1 #[(0, x)]) (hx : a.eval x = .agg #[.int .i64 s.1, .int .i64 s.2])
    (h : ∀ w' g, RdDt w'.heap.size w' (some ⟨g, 0, none⟩) [s] → Below w.heap.size w w' → K (a.put o.dst (.slice (some ⟨g, 0, none⟩) 1 1)) w') : o.wp Try.prog a w K Q := by
  have hh := h (w.alloc (.cells #[.int .i64 s.1, .int .i64 s.2] 24)) w.heap.size (by rw [World.size_alloc]; exact RdDt.one s) ((Below.refl _ _).alloc (Nat.le_refl _) _)
  unfold Oper.wp execOp
  have hr : (Instr.buildSlice 22 1 #[(0, .agg #[.int .i64 s.1, .int .i64 s.2])]).run Try.prog w = .ok (.slice (some ⟨w.heap.size, 0, none⟩) 1 1) (w.alloc (.cells #[.int .i64 s.1, .int .i64 s.2] 24)) := by kernel_rfl
  simp only [ho, Sem.run_bind, Sem.run_pure, Result.andThen_ok, List.map_toArray, List.map_cons, List.map_nil, hx, hr]
  exact hh
/-- A region at the end of a block. -/
theorem region_writesB {P : Program} {c : Code} {Q : Exit → Act → World → Prop} {a : Act} {w : World} (slots : List Nat) (G : (Nat → Value) → World → Prop) (hK : ∀ f w', G f w' → Q .normal (writes a slots f) w')
    (h : c.wp P (fun e a' w' => e = .normal ∧ ∃ f, a' = writes a slots f ∧ G f w') a w) : c.wp P Q a w :=
  Code.wp_mono (fun e a' w' h => by obtain ⟨rfl, f, rfl, h⟩ := h; exact hK _ _ h) h

theorem dvV_len : ∀ (a b : List Dt), (dvV a b).length ≤ a.length + b.length
  | [], b => by unfold dvV; simp
  | d :: r, [] => by unfold dvV; simp
  | d :: r, e :: s => by
    unfold dvV
    split
    · have := dvV_len r (e :: s); simp only [List.length_cons] at *; omega
    · split
      · have := dvV_len (d :: r) s; simp only [List.length_cons] at *; omega
      · have := dvV_len r s; simp only [List.length_cons] at *; omega
termination_by a b => a.length + b.length
theorem dvV_pos {a b : List Dt} (ha : okV a) (hb : okV b) : ∀ k ∈ dvV a b, 0 < max (atV a k) (atV b k) := by
  intro k hk
  rcases (dvV_mem a b k).1 hk with ⟨d, hd, rfl⟩ | ⟨d, hd, rfl⟩
  · have h1 := atV_mem ha d hd
    have h2 := (okV_dot ha d hd).2.2.1
    omega
  · have h1 := atV_mem hb d hd
    have h2 := (okV_dot hb d hd).2.2.1
    omega

set_option maxRecDepth 100000 in
set_option maxHeartbeats 1600000 in
theorem rJoin12_ok (a : Option Addr) (cap : Nat) (l : List Dt) (a2 : Option Addr) (cap2 : Nat) (m : List Dt) (h1 : okV l) (h2 : okV m) (hn1 : l.length ≤ 600) (hn2 : m.length ≤ 601) (w : World) (hl : RdDt w.heap.size w a l) (hm : RdDt w.heap.size w a2 m) :
    Calls Try.prog 22 #[.slice a l.length cap, .slice a2 m.length cap2] w fun e w' => ∃ v, e = .returned (.tuple #[v, .int .i64 0]) ∧ OwnDt w.heap.size w' v (jnV l m) ∧ Below w.heap.size w w' := by
  have K0 := Lib.hid (rCheck2_any a cap l a2 cap2 m w hl hm)
  rw [ch2_ok h1 h2] at K0
  have K1 := Lib.hid (fun W (h : Below w.heap.size w W) => rDevices12_any a cap l a2 cap2 m h1 h2 hn1 hn2 W (hl.call h) (hm.call h))
  have KL := Lib.hid (fun k W (h : Below w.heap.size w W) => rAt12_any a cap l k W (hl.call h))
  have KM := Lib.hid (fun k W (h : Below w.heap.size w W) => rAt12_any a2 cap2 m k W (hm.call h))
  have HRES := Lib.hid (join_mk h1 h2)
  have HPO := Lib.hid (dvV_pos h1 h2)
  obtain ⟨DV, hDV⟩ := exEqD (dvV l m)
  have HDL : Hid (DV.length ≤ 1300) := Lib.hid (by
    rw [← hDV]
    have h9 : ∀ (x y : List Dt), (dvV x y).length ≤ x.length + y.length := dvV_len
    have := h9 l m
    omega)
  rw [hDV] at K1 HRES HPO
  obtain ⟨g, hg⟩ := exEqD (fun k => max (atV l k) (atV m k))
  have HG := Lib.hid (fun k => congrFun hg k)
  rw [hg] at HRES
  obtain ⟨Z, hZ⟩ := exEqD (jnV l m)
  rw [hZ] at HRES ⊢
  generalize l.length = n at *
  generalize m.length = q at *
  have HB0 := Lib.hid (Below.refl w.heap.size w)
  clear hl hm hDV hg hZ h1 h2 hn1 hn2
  go_enter Try.func22, Try.ntmps22
  go_wp2_with fail
  with_reducible refine K0.out.mono ?_
  rintro e w1 ⟨rfl, hb⟩
  have HB1 := Lib.hid hb
  clear hb
  go_wp2_with fail
  with_reducible refine (K1.out _ HB1.out).mono ?_
  rintro e wd ⟨vd, rfl, hod, hb⟩
  have HBd := Lib.hid (HB1.out.trans (hb.mono HB1.out.size))
  obtain ⟨ad, cd, rfl, hfd⟩ := hod.form
  have HFD := Lib.hid hfd
  have HO0 : Hid (OwnDt wd.heap.size wd (.slice none 0 0) (mkV g (DV.take 0))) := Lib.hid (OwnDt.nil _ _)
  have HBB := Lib.hid (Below.refl wd.heap.size wd)
  obtain ⟨t, ht⟩ := exEqD DV.length
  have HT := Lib.hid ht
  rw [ht] at HDL ⊢
  clear hb hod hfd ht
  go_wp2_with fail
  go_loopw [8, 9] (fun v i wr => ∃ j : Nat, j ≤ t ∧ i = .int .i64 j ∧ OwnDt wd.heap.size wr v (mkV g (DV.take j)) ∧ Below wd.heap.size wd wr) (fun _ i _ => t - (intOf i).toNat)
  case atStart => exact ⟨0, by omega, rfl, HO0.out, HBB.out⟩
  case round =>
    clear HO0 HBB
    obtain ⟨j, hj, rfl, ho, hb⟩ := hrel
    have HO := Lib.hid ho
    have HB := Lib.hid hb
    obtain ⟨av, cv, rfl, _⟩ := ho.form
    by_cases hlt : j < t
    · have hjl : j < DV.length := by rw [HT.out]; exact hlt
      have HDL2 := HDL.out
      have bj : (0 : Int) ≤ (j : Int) := Int.natCast_nonneg _
      have bj1 : (j : Int) < (t : Int) := by omega
      have cj := wrapD ((j : Int) + 1) (by omega) (by omega)
      obtain ⟨gd, rfl, hgB, hgd, hcd⟩ : ∃ gd, ad = some ⟨gd, 0, none⟩ ∧ w1.heap.size ≤ gd ∧ gd < wd.heap.size ∧ ∀ j (h : j < DV.length), wd.cell? ⟨gd, j, none⟩ = some (.int .i64 DV[j]) := by
        rcases HFD.out with h | ⟨gd, e, h1, h2, h3⟩
        · rw [h] at hjl; simp at hjl
        · exact ⟨gd, e, h1, h2, h3⟩
      have HCD : Hid (∀ W, Below wd.heap.size wd W → W.cell? ⟨gd, j, none⟩ = some (.int .i64 DV[j])) := Lib.hid (fun W hW => (hW.cell (p := ⟨gd, j, none⟩) hgd).trans (hcd j hjl))
      have HAPP : Hid (mkV g (DV.take (j + 1)) = if 0 < g DV[j] then mkV g (DV.take j) ++ [(DV[j], g DV[j])] else mkV g (DV.take j)) := Lib.hid (by rw [List.take_succ_eq_append_getElem hjl, mkV_app])
      have HXL : Hid ((mkV g (DV.take j)).length ≤ 1000000) := Lib.hid (by have h9 := mkV_len g (DV.take j); rw [List.length_take] at h9; omega)
      have KA := Lib.hid (fun W h => KL.out DV[j] W h)
      have KB := Lib.hid (fun W h => KM.out DV[j] W h)
      have HGK := Lib.hid (HG.out DV[j])
      have HPK := Lib.hid (HPO.out DV[j] (List.getElem_mem hjl))
      generalize DV[j] = k at *
      obtain ⟨X, hX⟩ := exEqD (mkV g (DV.take j))
      rw [hX] at HO HAPP HXL ⊢
      have HO2 : Hid (OwnDt wd.heap.size wr (.slice av X.length cv) X) := HO
      obtain ⟨va, hva⟩ := exEqD (atV l k)
      obtain ⟨vb, hvb⟩ := exEqD (atV m k)
      rw [hva] at KA HGK HPK
      rw [hvb] at KB HGK HPK
      obtain ⟨M, hM⟩ := exEqD (g k)
      rw [hM] at HAPP HGK
      have HM2 : Hid (max va vb = M) := Lib.hid HGK.out
      have HPOS : Hid (0 < M) := Lib.hid (by rw [← HM2.out]; exact HPK.out)
      clear HPO HPK hX hva hvb hM ho hb hcd HDL2 HFD HGK KL KM HO
      have fm1 : (if va < vb then vb else va) = M := by rw [← HM2.out]; split <;> omega
      have fm2 : (if vb < va then va else vb) = M := by rw [← HM2.out]; split <;> omega
      have fm3 : (if va ≤ vb then vb else va) = M := by rw [← HM2.out]; split <;> omega
      go_wp2_with fail
      refine region_writesB [25, 26, 27, 28, 29, 30, 31, 32, 33, 34, 35, 36, 37, 38, 39, 40, 41, 42, 43, 44, 45, 8] (fun f W => OwnDt wd.heap.size W (f 8) (X ++ [(k, M)]) ∧ Below wd.heap.size wd W) ?_ ?_
      rotate_left
      · skip
        have HE : Hid (Below wr.heap.size wr wr.drew) := Lib.hid ((Below.refl _ _).drew)
        have HSB : Hid (∀ W, Below wr.heap.size wr W → (W.cell? ⟨gd, j, none⟩ = some (.int .i64 k))) := Lib.hid (fun W hW => HCD.out W (HB.out.trans (hW.mono HB.out.size)))
        refine wp_region_held_drew (S := fun W => W.cell? ⟨gd, j, none⟩ = some (.int .i64 k)) (by kernel_rfl) (HSB.out _ HE.out) (fun hHeld => ?_)
        refine wpAnyH_take (i := 0) (v := .slice av X.length cv) rfl (by kernel_rfl) (by kernel_rfl) (by kernel_rfl) (fun _ _ _ h => nomatch h.1) (Or.inl ⟨by rfl, fun w _ => by go_simp⟩) hHeld ?_
        simp only [Act.put, List.getElem_toArray, List.getElem_cons_zero, List.getElem_cons_succ, List.setIfInBounds_toArray, List.set_cons_zero, List.set_cons_succ]
        refine wpAnyH_take (i := 1) (v := .slice (some ⟨gd, 0, none⟩) t cd) rfl (by kernel_rfl) (by kernel_rfl) (by kernel_rfl) (fun _ _ _ h => nomatch h.1) (Or.inl ⟨by rfl, fun w _ => by go_simp⟩) hHeld ?_
        simp only [Act.put, List.getElem_toArray, List.getElem_cons_zero, List.getElem_cons_succ, List.setIfInBounds_toArray, List.set_cons_zero, List.set_cons_succ]
        refine wpAnyH_take (i := 2) (v := .int .i64 j) rfl (by kernel_rfl) (by kernel_rfl) (by kernel_rfl) (fun _ _ _ h => nomatch h.1) (Or.inl ⟨by rfl, fun w _ => by go_simp⟩) hHeld ?_
        simp only [Act.put, List.getElem_toArray, List.getElem_cons_zero, List.getElem_cons_succ, List.setIfInBounds_toArray, List.set_cons_zero, List.set_cons_succ]
        refine wpAnyH_take (i := 3) (v := .pointer (some ⟨gd, j, none⟩)) rfl (by kernel_rfl) (by kernel_rfl) (by kernel_rfl) (fun _ _ _ h => nomatch h.1) (Or.inl ⟨by rfl, fun w _ => by go_simp⟩) hHeld ?_
        simp only [Act.put, List.getElem_toArray, List.getElem_cons_zero, List.getElem_cons_succ, List.setIfInBounds_toArray, List.set_cons_zero, List.set_cons_succ]
        refine wpAnyH_take (i := 4) (v := .int .i64 k) rfl (by kernel_rfl) (by kernel_rfl) (by kernel_rfl) (fun _ _ _ h => nomatch h.1) (Or.inl ⟨by rfl, fun w hw => by have h1 := hw; go_simp⟩) hHeld ?_
        simp only [Act.put, List.getElem_toArray, List.getElem_cons_zero, List.getElem_cons_succ, List.setIfInBounds_toArray, List.set_cons_zero, List.set_cons_succ]
        refine wpAnyH_take (i := 5) (v := .slice a n cap) rfl (by kernel_rfl) (by kernel_rfl) (by kernel_rfl) (fun _ _ _ h => nomatch h.1) (Or.inl ⟨by rfl, fun w _ => by go_simp⟩) hHeld ?_
        simp only [Act.put, List.getElem_toArray, List.getElem_cons_zero, List.getElem_cons_succ, List.setIfInBounds_toArray, List.set_cons_zero, List.set_cons_succ]
        refine wpAnyH_take (i := 6) (v := .slice (some ⟨gd, 0, none⟩) t cd) rfl (by kernel_rfl) (by kernel_rfl) (by kernel_rfl) (fun _ _ _ h => nomatch h.1) (Or.inl ⟨by rfl, fun w _ => by go_simp⟩) hHeld ?_
        simp only [Act.put, List.getElem_toArray, List.getElem_cons_zero, List.getElem_cons_succ, List.setIfInBounds_toArray, List.set_cons_zero, List.set_cons_succ]
        refine wpAnyH_take (i := 7) (v := .int .i64 j) rfl (by kernel_rfl) (by kernel_rfl) (by kernel_rfl) (fun _ _ _ h => nomatch h.1) (Or.inl ⟨by rfl, fun w _ => by go_simp⟩) hHeld ?_
        simp only [Act.put, List.getElem_toArray, List.getElem_cons_zero, List.getElem_cons_succ, List.setIfInBounds_toArray, List.set_cons_zero, List.set_cons_succ]
        refine wpAnyH_take (i := 8) (v := .pointer (some ⟨gd, j, none⟩)) rfl (by kernel_rfl) (by kernel_rfl) (by kernel_rfl) (fun _ _ _ h => nomatch h.1) (Or.inl ⟨by rfl, fun w _ => by go_simp⟩) hHeld ?_
        simp only [Act.put, List.getElem_toArray, List.getElem_cons_zero, List.getElem_cons_succ, List.setIfInBounds_toArray, List.set_cons_zero, List.set_cons_succ]
        refine wpAnyH_take (i := 9) (v := .int .i64 k) rfl (by kernel_rfl) (by kernel_rfl) (by kernel_rfl) (fun _ _ _ h => nomatch h.1) (Or.inl ⟨by rfl, fun w hw => by have h1 := hw; go_simp⟩) hHeld ?_
        simp only [Act.put, List.getElem_toArray, List.getElem_cons_zero, List.getElem_cons_succ, List.setIfInBounds_toArray, List.set_cons_zero, List.set_cons_succ]
        refine wpAnyH_take (i := 11) (v := .slice a2 q cap2) rfl (by kernel_rfl) (by kernel_rfl) (by kernel_rfl) (fun _ _ _ h => nomatch h.1) (Or.inl ⟨by rfl, fun w _ => by go_simp⟩) hHeld ?_
        simp only [Act.put, List.getElem_toArray, List.getElem_cons_zero, List.getElem_cons_succ, List.setIfInBounds_toArray, List.set_cons_zero, List.set_cons_succ]
        refine wpAnyH_take (i := 12) (v := .slice (some ⟨gd, 0, none⟩) t cd) rfl (by kernel_rfl) (by kernel_rfl) (by kernel_rfl) (fun _ _ _ h => nomatch h.1) (Or.inl ⟨by rfl, fun w _ => by go_simp⟩) hHeld ?_
        simp only [Act.put, List.getElem_toArray, List.getElem_cons_zero, List.getElem_cons_succ, List.setIfInBounds_toArray, List.set_cons_zero, List.set_cons_succ]
        refine wpAnyH_take (i := 13) (v := .int .i64 j) rfl (by kernel_rfl) (by kernel_rfl) (by kernel_rfl) (fun _ _ _ h => nomatch h.1) (Or.inl ⟨by rfl, fun w _ => by go_simp⟩) hHeld ?_
        simp only [Act.put, List.getElem_toArray, List.getElem_cons_zero, List.getElem_cons_succ, List.setIfInBounds_toArray, List.set_cons_zero, List.set_cons_succ]
        refine wpAnyH_take (i := 14) (v := .pointer (some ⟨gd, j, none⟩)) rfl (by kernel_rfl) (by kernel_rfl) (by kernel_rfl) (fun _ _ _ h => nomatch h.1) (Or.inl ⟨by rfl, fun w _ => by go_simp⟩) hHeld ?_
        simp only [Act.put, List.getElem_toArray, List.getElem_cons_zero, List.getElem_cons_succ, List.setIfInBounds_toArray, List.set_cons_zero, List.set_cons_succ]
        refine wpAnyH_take (i := 15) (v := .int .i64 k) rfl (by kernel_rfl) (by kernel_rfl) (by kernel_rfl) (fun _ _ _ h => nomatch h.1) (Or.inl ⟨by rfl, fun w hw => by have h1 := hw; go_simp⟩) hHeld ?_
        simp only [Act.put, List.getElem_toArray, List.getElem_cons_zero, List.getElem_cons_succ, List.setIfInBounds_toArray, List.set_cons_zero, List.set_cons_succ]
        refine wpAnyH_ready (rs := [10]) (by kernel_rfl) (by simp) (AllReadyH.cons rfl (fun K hK => ?_) AllReadyH.nil)
        rw [if_pos (by rfl)]
        go_simp
        with_reducible refine (KA.out wr.drew (HBd.out.trans ((HB.out.trans (HE.out.mono HB.out.size)).mono HBd.out.size))).mono ?_
        rintro e wo ⟨rfl, hwo⟩
        rw [hwo]
        clear hwo wo
        refine hK.out _ _ (HSB.out _ HE.out) (fun hHeld => ?_)
        clear hK K
        try simp only [Act.put, List.getElem_toArray, List.getElem_cons_zero, List.getElem_cons_succ, List.setIfInBounds_toArray, List.set_cons_zero, List.set_cons_succ]
        refine wpAnyH_ready (rs := [16]) (by kernel_rfl) (by simp) (AllReadyH.cons rfl (fun K hK => ?_) AllReadyH.nil)
        rw [if_pos (by rfl)]
        go_simp
        with_reducible refine (KB.out wr.drew (HBd.out.trans ((HB.out.trans (HE.out.mono HB.out.size)).mono HBd.out.size))).mono ?_
        rintro e wo ⟨rfl, hwo⟩
        rw [hwo]
        clear hwo wo
        refine hK.out _ _ (HSB.out _ HE.out) (fun hHeld => ?_)
        clear hK K
        try simp only [Act.put, List.getElem_toArray, List.getElem_cons_zero, List.getElem_cons_succ, List.setIfInBounds_toArray, List.set_cons_zero, List.set_cons_succ]
        refine wpAnyH_take (i := 17) (v := .int .i64 M) rfl (by kernel_rfl) (by kernel_rfl) (by kernel_rfl) (fun _ _ _ h => nomatch h.1) (Or.inl ⟨by rfl, fun w _ => by go_simp; try exact fm1⟩) hHeld ?_
        simp only [Act.put, List.getElem_toArray, List.getElem_cons_zero, List.getElem_cons_succ, List.setIfInBounds_toArray, List.set_cons_zero, List.set_cons_succ]
        refine wpAnyH_take (i := 18) (v := .agg #[.int .i64 k, .int .i64 M]) rfl (by kernel_rfl) (by kernel_rfl) (by kernel_rfl) (fun _ _ _ h => nomatch h.1) (Or.inl ⟨by rfl, fun w _ => by go_simp⟩) hHeld ?_
        simp only [Act.put, List.getElem_toArray, List.getElem_cons_zero, List.getElem_cons_succ, List.setIfInBounds_toArray, List.set_cons_zero, List.set_cons_succ]
        refine wpAnyH_ready (rs := [19]) (by kernel_rfl) (by simp) (AllReadyH.cons rfl (fun K hK => ?_) AllReadyH.nil)
        rw [if_pos (by rfl)]
        refine wp_oneDt (k, M) (.tmp 43) rfl rfl ?_
        intro v1 g1 hrd hb
        replace HO2 := Lib.hid ((OwnDt.drew HO2.out).below hb)
        have HS1 := Lib.hid hrd
        replace HE := Lib.hid (HE.out.trans (hb.mono HE.out.size))
        clear hrd hb
        refine hK.out _ _ (HSB.out _ HE.out) (fun hHeld => ?_)
        clear hK K
        try simp only [Act.put, List.getElem_toArray, List.getElem_cons_zero, List.getElem_cons_succ, List.setIfInBounds_toArray, List.set_cons_zero, List.set_cons_succ]
        refine wpAnyH_ready (rs := [20]) (by kernel_rfl) (by simp) (AllReadyH.cons rfl (fun K hK => ?_) AllReadyH.nil)
        rw [if_pos (by rfl)]
        refine wp_appDt (.tmp 25) (.tmp 44) rfl wd.heap.size _ X [(k, M)] _ 1 rfl HO2.out rfl HS1.out (fun e => by cases e) (by have := HXL.out; simp only [List.length_singleton]; omega) (Nat.le_trans HB.out.size HE.out.size) ?_
        intro v4 v2 ho4 hg4
        have HO9 := Lib.hid ho4
        have HW9 := Lib.hid ((HB.out.trans (HE.out.mono HB.out.size)).trans (hg4.below HO2.out.base (Nat.le_trans HB.out.size HE.out.size)))
        clear ho4 hg4
        refine hK.out _ _ (HCD.out _ HW9.out) (fun hHeld => ?_)
        clear hK K
        try simp only [Act.put, List.getElem_toArray, List.getElem_cons_zero, List.getElem_cons_succ, List.setIfInBounds_toArray, List.set_cons_zero, List.set_cons_succ]
        refine wpAnyH_take (i := 21) (v := v4) rfl (by kernel_rfl) (by kernel_rfl) (by kernel_rfl) (fun _ _ _ h => nomatch h.1) (Or.inl ⟨by rfl, fun w _ => by go_simp⟩) hHeld ?_
        simp only [Act.put, List.getElem_toArray, List.getElem_cons_zero, List.getElem_cons_succ, List.setIfInBounds_toArray, List.set_cons_zero, List.set_cons_succ]
        refine wpAnyH_done (by kernel_rfl) ?_ _
        exact ⟨rfl, writes_ex (by kernel_rfl) (⟨HO9.out, HW9.out⟩)⟩
      rintro f w3 ⟨ho3, hb3⟩
      have HO3 := Lib.hid ho3
      have HB3 := Lib.hid hb3
      have HP : Hid (0 < M) := HPOS
      clear ho3 hb3
      simp only [writes, List.foldl_cons, List.foldl_nil, Act.put, List.setIfInBounds_toArray, List.set_cons_zero, List.set_cons_succ]
      go_wp2_with fail
      go_roundw
      case rel => exact ⟨j + 1, by omega, by go_num, by rw [HAPP.out, if_pos HP.out]; exact HO3.out, HB3.out⟩
      case measure => simp [intOf]; omega
    · obtain rfl : j = t := by omega
      rw [List.take_of_length_le (by rw [HT.out]; exact Nat.le_refl _), HRES.out] at HO ⊢
      clear ho hb
      go_wp2_with fail
      go_ret2
      exact ⟨_, rfl, HO.out.mono HBd.out.size, HBd.out.trans (HB.out.mono HBd.out.size)⟩

set_option maxRecDepth 100000 in
set_option maxHeartbeats 1600000 in
theorem rMeet12_ok (a : Option Addr) (cap : Nat) (l : List Dt) (a2 : Option Addr) (cap2 : Nat) (m : List Dt) (h1 : okV l) (h2 : okV m) (hn1 : l.length ≤ 600) (hn2 : m.length ≤ 601) (w : World) (hl : RdDt w.heap.size w a l) (hm : RdDt w.heap.size w a2 m) :
    Calls Try.prog 24 #[.slice a l.length cap, .slice a2 m.length cap2] w fun e w' => ∃ v, e = .returned (.tuple #[v, .int .i64 0]) ∧ OwnDt w.heap.size w' v (mtV l m) ∧ Below w.heap.size w w' := by
  have K0 := Lib.hid (rCheck2_any a cap l a2 cap2 m w hl hm)
  rw [ch2_ok h1 h2] at K0
  have K1 := Lib.hid (fun W (h : Below w.heap.size w W) => rDevices12_any a cap l a2 cap2 m h1 h2 hn1 hn2 W (hl.call h) (hm.call h))
  have KL := Lib.hid (fun k W (h : Below w.heap.size w W) => rAt12_any a cap l k W (hl.call h))
  have KM := Lib.hid (fun k W (h : Below w.heap.size w W) => rAt12_any a2 cap2 m k W (hm.call h))
  have HRES := Lib.hid (meet_mk h1 h2)
  obtain ⟨DV, hDV⟩ := exEqD (dvV l m)
  have HDL : Hid (DV.length ≤ 1300) := Lib.hid (by
    rw [← hDV]
    have h9 : ∀ (x y : List Dt), (dvV x y).length ≤ x.length + y.length := dvV_len
    have := h9 l m
    omega)
  rw [hDV] at K1 HRES
  obtain ⟨g, hg⟩ := exEqD (fun k => min (atV l k) (atV m k))
  have HG := Lib.hid (fun k => congrFun hg k)
  rw [hg] at HRES
  obtain ⟨Z, hZ⟩ := exEqD (mtV l m)
  rw [hZ] at HRES ⊢
  generalize l.length = n at *
  generalize m.length = q at *
  have HB0 := Lib.hid (Below.refl w.heap.size w)
  clear hl hm hDV hg hZ h1 h2 hn1 hn2
  go_enter Try.func24, Try.ntmps24
  go_wp2_with fail
  with_reducible refine K0.out.mono ?_
  rintro e w1 ⟨rfl, hb⟩
  have HB1 := Lib.hid hb
  clear hb
  go_wp2_with fail
  with_reducible refine (K1.out _ HB1.out).mono ?_
  rintro e wd ⟨vd, rfl, hod, hb⟩
  have HBd := Lib.hid (HB1.out.trans (hb.mono HB1.out.size))
  obtain ⟨ad, cd, rfl, hfd⟩ := hod.form
  have HFD := Lib.hid hfd
  have HO0 : Hid (OwnDt wd.heap.size wd (.slice none 0 0) (mkV g (DV.take 0))) := Lib.hid (OwnDt.nil _ _)
  have HBB := Lib.hid (Below.refl wd.heap.size wd)
  obtain ⟨t, ht⟩ := exEqD DV.length
  have HT := Lib.hid ht
  rw [ht] at HDL ⊢
  clear hb hod hfd ht
  go_wp2_with fail
  go_loopw [8, 9] (fun v i wr => ∃ j : Nat, j ≤ t ∧ i = .int .i64 j ∧ OwnDt wd.heap.size wr v (mkV g (DV.take j)) ∧ Below wd.heap.size wd wr) (fun _ i _ => t - (intOf i).toNat)
  case atStart => exact ⟨0, by omega, rfl, HO0.out, HBB.out⟩
  case round =>
    clear HO0 HBB
    obtain ⟨j, hj, rfl, ho, hb⟩ := hrel
    have HO := Lib.hid ho
    have HB := Lib.hid hb
    obtain ⟨av, cv, rfl, _⟩ := ho.form
    by_cases hlt : j < t
    · have hjl : j < DV.length := by rw [HT.out]; exact hlt
      have HDL2 := HDL.out
      have bj : (0 : Int) ≤ (j : Int) := Int.natCast_nonneg _
      have bj1 : (j : Int) < (t : Int) := by omega
      have cj := wrapD ((j : Int) + 1) (by omega) (by omega)
      obtain ⟨gd, rfl, hgB, hgd, hcd⟩ : ∃ gd, ad = some ⟨gd, 0, none⟩ ∧ w1.heap.size ≤ gd ∧ gd < wd.heap.size ∧ ∀ j (h : j < DV.length), wd.cell? ⟨gd, j, none⟩ = some (.int .i64 DV[j]) := by
        rcases HFD.out with h | ⟨gd, e, h1, h2, h3⟩
        · rw [h] at hjl; simp at hjl
        · exact ⟨gd, e, h1, h2, h3⟩
      have HCD : Hid (∀ W, Below wd.heap.size wd W → W.cell? ⟨gd, j, none⟩ = some (.int .i64 DV[j])) := Lib.hid (fun W hW => (hW.cell (p := ⟨gd, j, none⟩) hgd).trans (hcd j hjl))
      have HAPP : Hid (mkV g (DV.take (j + 1)) = if 0 < g DV[j] then mkV g (DV.take j) ++ [(DV[j], g DV[j])] else mkV g (DV.take j)) := Lib.hid (by rw [List.take_succ_eq_append_getElem hjl, mkV_app])
      have HXL : Hid ((mkV g (DV.take j)).length ≤ 1000000) := Lib.hid (by have h9 := mkV_len g (DV.take j); rw [List.length_take] at h9; omega)
      have KA := Lib.hid (fun W h => KL.out DV[j] W h)
      have KB := Lib.hid (fun W h => KM.out DV[j] W h)
      have HGK := Lib.hid (HG.out DV[j])
      generalize DV[j] = k at *
      obtain ⟨X, hX⟩ := exEqD (mkV g (DV.take j))
      rw [hX] at HO HAPP HXL ⊢
      have HO2 : Hid (OwnDt wd.heap.size wr (.slice av X.length cv) X) := HO
      obtain ⟨va, hva⟩ := exEqD (atV l k)
      obtain ⟨vb, hvb⟩ := exEqD (atV m k)
      rw [hva] at KA HGK
      rw [hvb] at KB HGK
      obtain ⟨M, hM⟩ := exEqD (g k)
      rw [hM] at HAPP HGK
      have HM2 : Hid (min va vb = M) := Lib.hid HGK.out
      clear hX hva hvb hM ho hb hcd HDL2 HFD HGK KL KM HO
      have fm1 : (if va < vb then va else vb) = M := by rw [← HM2.out]; split <;> omega
      have fm2 : (if vb < va then vb else va) = M := by rw [← HM2.out]; split <;> omega
      have fm3 : (if va ≤ vb then va else vb) = M := by rw [← HM2.out]; split <;> omega
      go_wp2_with fail
      rename_i K0 hK0
      refine region_writes [26, 27, 28, 29, 30, 31, 32, 33, 34, 35, 36, 37, 38, 10] (fun f W => f 10 = .int .i64 M ∧ Below wr.heap.size wr W) ?_ ?_
      rotate_left
      · clear hK0 K0
        have HE : Hid (Below wr.heap.size wr wr.drew) := Lib.hid ((Below.refl _ _).drew)
        have HSB : Hid (∀ W, Below wr.heap.size wr W → (W.cell? ⟨gd, j, none⟩ = some (.int .i64 k))) := Lib.hid (fun W hW => HCD.out W (HB.out.trans (hW.mono HB.out.size)))
        refine wp_region_held_drew (S := fun W => W.cell? ⟨gd, j, none⟩ = some (.int .i64 k)) (by kernel_rfl) (HSB.out _ HE.out) (fun hHeld => ?_)
        refine wpAnyH_take (i := 0) (v := .slice a n cap) rfl (by kernel_rfl) (by kernel_rfl) (by kernel_rfl) (fun _ _ _ h => nomatch h.1) (Or.inl ⟨by rfl, fun w _ => by go_simp⟩) hHeld ?_
        simp only [Act.put, List.getElem_toArray, List.getElem_cons_zero, List.getElem_cons_succ, List.setIfInBounds_toArray, List.set_cons_zero, List.set_cons_succ]
        refine wpAnyH_take (i := 1) (v := .slice (some ⟨gd, 0, none⟩) t cd) rfl (by kernel_rfl) (by kernel_rfl) (by kernel_rfl) (fun _ _ _ h => nomatch h.1) (Or.inl ⟨by rfl, fun w _ => by go_simp⟩) hHeld ?_
        simp only [Act.put, List.getElem_toArray, List.getElem_cons_zero, List.getElem_cons_succ, List.setIfInBounds_toArray, List.set_cons_zero, List.set_cons_succ]
        refine wpAnyH_take (i := 2) (v := .int .i64 j) rfl (by kernel_rfl) (by kernel_rfl) (by kernel_rfl) (fun _ _ _ h => nomatch h.1) (Or.inl ⟨by rfl, fun w _ => by go_simp⟩) hHeld ?_
        simp only [Act.put, List.getElem_toArray, List.getElem_cons_zero, List.getElem_cons_succ, List.setIfInBounds_toArray, List.set_cons_zero, List.set_cons_succ]
        refine wpAnyH_take (i := 3) (v := .pointer (some ⟨gd, j, none⟩)) rfl (by kernel_rfl) (by kernel_rfl) (by kernel_rfl) (fun _ _ _ h => nomatch h.1) (Or.inl ⟨by rfl, fun w _ => by go_simp⟩) hHeld ?_
        simp only [Act.put, List.getElem_toArray, List.getElem_cons_zero, List.getElem_cons_succ, List.setIfInBounds_toArray, List.set_cons_zero, List.set_cons_succ]
        refine wpAnyH_take (i := 4) (v := .int .i64 k) rfl (by kernel_rfl) (by kernel_rfl) (by kernel_rfl) (fun _ _ _ h => nomatch h.1) (Or.inl ⟨by rfl, fun w hw => by have h1 := hw; go_simp⟩) hHeld ?_
        simp only [Act.put, List.getElem_toArray, List.getElem_cons_zero, List.getElem_cons_succ, List.setIfInBounds_toArray, List.set_cons_zero, List.set_cons_succ]
        refine wpAnyH_take (i := 6) (v := .slice a2 q cap2) rfl (by kernel_rfl) (by kernel_rfl) (by kernel_rfl) (fun _ _ _ h => nomatch h.1) (Or.inl ⟨by rfl, fun w _ => by go_simp⟩) hHeld ?_
        simp only [Act.put, List.getElem_toArray, List.getElem_cons_zero, List.getElem_cons_succ, List.setIfInBounds_toArray, List.set_cons_zero, List.set_cons_succ]
        refine wpAnyH_take (i := 7) (v := .slice (some ⟨gd, 0, none⟩) t cd) rfl (by kernel_rfl) (by kernel_rfl) (by kernel_rfl) (fun _ _ _ h => nomatch h.1) (Or.inl ⟨by rfl, fun w _ => by go_simp⟩) hHeld ?_
        simp only [Act.put, List.getElem_toArray, List.getElem_cons_zero, List.getElem_cons_succ, List.setIfInBounds_toArray, List.set_cons_zero, List.set_cons_succ]
        refine wpAnyH_take (i := 8) (v := .int .i64 j) rfl (by kernel_rfl) (by kernel_rfl) (by kernel_rfl) (fun _ _ _ h => nomatch h.1) (Or.inl ⟨by rfl, fun w _ => by go_simp⟩) hHeld ?_
        simp only [Act.put, List.getElem_toArray, List.getElem_cons_zero, List.getElem_cons_succ, List.setIfInBounds_toArray, List.set_cons_zero, List.set_cons_succ]
        refine wpAnyH_take (i := 9) (v := .pointer (some ⟨gd, j, none⟩)) rfl (by kernel_rfl) (by kernel_rfl) (by kernel_rfl) (fun _ _ _ h => nomatch h.1) (Or.inl ⟨by rfl, fun w _ => by go_simp⟩) hHeld ?_
        simp only [Act.put, List.getElem_toArray, List.getElem_cons_zero, List.getElem_cons_succ, List.setIfInBounds_toArray, List.set_cons_zero, List.set_cons_succ]
        refine wpAnyH_take (i := 10) (v := .int .i64 k) rfl (by kernel_rfl) (by kernel_rfl) (by kernel_rfl) (fun _ _ _ h => nomatch h.1) (Or.inl ⟨by rfl, fun w hw => by have h1 := hw; go_simp⟩) hHeld ?_
        simp only [Act.put, List.getElem_toArray, List.getElem_cons_zero, List.getElem_cons_succ, List.setIfInBounds_toArray, List.set_cons_zero, List.set_cons_succ]
        refine wpAnyH_ready (rs := [5]) (by kernel_rfl) (by simp) (AllReadyH.cons rfl (fun K hK => ?_) AllReadyH.nil)
        rw [if_pos (by rfl)]
        go_simp
        with_reducible refine (KA.out wr.drew (HBd.out.trans ((HB.out.trans (HE.out.mono HB.out.size)).mono HBd.out.size))).mono ?_
        rintro e wo ⟨rfl, hwo⟩
        rw [hwo]
        clear hwo wo
        refine hK.out _ _ (HSB.out _ HE.out) (fun hHeld => ?_)
        clear hK K
        try simp only [Act.put, List.getElem_toArray, List.getElem_cons_zero, List.getElem_cons_succ, List.setIfInBounds_toArray, List.set_cons_zero, List.set_cons_succ]
        refine wpAnyH_ready (rs := [11]) (by kernel_rfl) (by simp) (AllReadyH.cons rfl (fun K hK => ?_) AllReadyH.nil)
        rw [if_pos (by rfl)]
        go_simp
        with_reducible refine (KB.out wr.drew (HBd.out.trans ((HB.out.trans (HE.out.mono HB.out.size)).mono HBd.out.size))).mono ?_
        rintro e wo ⟨rfl, hwo⟩
        rw [hwo]
        clear hwo wo
        refine hK.out _ _ (HSB.out _ HE.out) (fun hHeld => ?_)
        clear hK K
        try simp only [Act.put, List.getElem_toArray, List.getElem_cons_zero, List.getElem_cons_succ, List.setIfInBounds_toArray, List.set_cons_zero, List.set_cons_succ]
        refine wpAnyH_take (i := 12) (v := .int .i64 M) rfl (by kernel_rfl) (by kernel_rfl) (by kernel_rfl) (fun _ _ _ h => nomatch h.1) (Or.inl ⟨by rfl, fun w _ => by go_simp; try exact fm1⟩) hHeld ?_
        simp only [Act.put, List.getElem_toArray, List.getElem_cons_zero, List.getElem_cons_succ, List.setIfInBounds_toArray, List.set_cons_zero, List.set_cons_succ]
        refine wpAnyH_take (i := 13) (v := .int .i64 M) rfl (by kernel_rfl) (by kernel_rfl) (by kernel_rfl) (fun _ _ _ h => nomatch h.1) (Or.inl ⟨by rfl, fun w _ => by go_simp⟩) hHeld ?_
        simp only [Act.put, List.getElem_toArray, List.getElem_cons_zero, List.getElem_cons_succ, List.setIfInBounds_toArray, List.set_cons_zero, List.set_cons_succ]
        refine wpAnyH_done (by kernel_rfl) ?_ _
        exact ⟨rfl, writes_ex (by kernel_rfl) (⟨rfl, HE.out⟩)⟩
      rintro f w3 ⟨e10, hb3⟩
      have HO3 := Lib.hid (HO2.out.below hb3)
      have HB3 := Lib.hid (HB.out.trans (hb3.mono HB.out.size))
      have c3 := HCD.out w3 HB3.out
      clear hb3
      refine hK0 _ _ ?_
      clear hK0 K0
      simp only [writes, List.foldl_cons, List.foldl_nil, Act.put, List.setIfInBounds_toArray, List.set_cons_zero, List.set_cons_succ]
      rw [e10]
      clear e10
      by_cases hM : 0 < M
      · have fM : decide (0 < M) = true := decide_eq_true hM
        have HAP2 : Hid (mkV g (DV.take (j + 1)) = X ++ [(k, M)]) := Lib.hid (by rw [HAPP.out, if_pos hM])
        go_wp2_with ((with_reducible show wpList _ _ _ (({ dst := some 49, op := _, type := _, pos := _, after := _, guard := _ } : Oper) :: _) _ _); go_must (refine wpList_appDt1 rfl (.tmp 41) (.tmp 48) rfl wd.heap.size _ X (k, M) w3 w3.heap.size rfl HO3.out rfl rfl rfl HXL.out HB3.out.size ?_))
        intro v4 w4 ho4 hb4
        have HO4 := Lib.hid ho4
        have HB4 := Lib.hid (HB3.out.trans hb4)
        clear ho4 hb4
        go_wp2_with fail
        go_roundw
        case rel => exact ⟨j + 1, by omega, by go_num, by rw [HAP2.out]; exact HO4.out, HB4.out⟩
        case measure => simp [intOf]; omega
      · have fM : decide (0 < M) = false := decide_eq_false hM
        have HAP2 : Hid (mkV g (DV.take (j + 1)) = X) := Lib.hid (by rw [HAPP.out, if_neg hM])
        go_wp2_with fail
        go_roundw
        case rel => exact ⟨j + 1, by omega, by go_num, by rw [HAP2.out]; exact HO3.out, HB3.out⟩
        case measure => simp [intOf]; omega
    · obtain rfl : j = t := by omega
      rw [List.take_of_length_le (by rw [HT.out]; exact Nat.le_refl _), HRES.out] at HO ⊢
      clear ho hb
      go_wp2_with fail
      go_ret2
      exact ⟨_, rfl, HO.out.mono HBd.out.size, HBd.out.trans (HB.out.mono HBd.out.size)⟩

set_option maxRecDepth 100000 in
set_option maxHeartbeats 1600000 in
theorem rJoin12_bad (a : Option Addr) (cap : Nat) (l : List Dt) (a2 : Option Addr) (cap2 : Nat) (m : List Dt) (h : ¬ (okV l ∧ okV m)) (w : World) (hl : RdDt w.heap.size w a l) (hm : RdDt w.heap.size w a2 m) :
    Calls Try.prog 22 #[.slice a l.length cap, .slice a2 m.length cap2] w fun e w' => e = .returned (.tuple #[.slice none 0 0, .int .i64 120]) ∧ Below w.heap.size w w' := by
  have K0 := Lib.hid (rCheck2_any a cap l a2 cap2 m w hl hm)
  rw [ch2_bad h] at K0
  generalize l.length = n at *
  generalize m.length = q at *
  clear hl hm h
  go_enter Try.func22, Try.ntmps22
  go_wp2_with fail
  with_reducible refine K0.out.mono ?_
  rintro e w1 ⟨rfl, hb⟩
  have HB1 := Lib.hid hb
  clear hb
  go_wp2_with fail
  go_ret2
  exact ⟨rfl, HB1.out⟩

set_option maxRecDepth 100000 in
set_option maxHeartbeats 1600000 in
theorem rMeet12_bad (a : Option Addr) (cap : Nat) (l : List Dt) (a2 : Option Addr) (cap2 : Nat) (m : List Dt) (h : ¬ (okV l ∧ okV m)) (w : World) (hl : RdDt w.heap.size w a l) (hm : RdDt w.heap.size w a2 m) :
    Calls Try.prog 24 #[.slice a l.length cap, .slice a2 m.length cap2] w fun e w' => e = .returned (.tuple #[.slice none 0 0, .int .i64 120]) ∧ Below w.heap.size w w' := by
  have K0 := Lib.hid (rCheck2_any a cap l a2 cap2 m w hl hm)
  rw [ch2_bad h] at K0
  generalize l.length = n at *
  generalize m.length = q at *
  clear hl hm h
  go_enter Try.func24, Try.ntmps24
  go_wp2_with fail
  with_reducible refine K0.out.mono ?_
  rintro e w1 ⟨rfl, hb⟩
  have HB1 := Lib.hid hb
  clear hb
  go_wp2_with fail
  go_ret2
  exact ⟨rfl, HB1.out⟩
end Go.Proofs.Ytfdfaajjlangjaa
