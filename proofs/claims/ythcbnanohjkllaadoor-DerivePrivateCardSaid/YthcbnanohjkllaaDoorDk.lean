/-
  The reference of package derive: Mix, Step, Scalar.
-/
import Derived.Test.YthcbnanohjkllaaDoorDj
import Derived.Test.YthcbnanohjkllaaDoorPkE
namespace Go.Proofs.YthcbnanohjkllaaDoor
open Go.RowKit
set_option linter.unusedVariables false
set_option linter.unusedSimpArgs false

/-- []byte{}: at a step of a drawn region. -/
theorem wp_nil0 {o : Oper} {a : Act} {w : World} {K : Act → World → Prop} {Q : Exit → Act → World → Prop} (ho : o.op = .buildSlice 22 0 #[])
    (h : ∀ w' g, OwnB w.heap.size w' (.slice (some ⟨g, 0, none⟩) 0 0) [] → g = w.heap.size → Below w.heap.size w w' → K (a.put o.dst (.slice (some ⟨g, 0, none⟩) 0 0)) w') : o.wp Tryd.prog a w K Q := by
  have hh := h _ _ (OwnB.empty1 _ rfl (Nat.le_refl _)) rfl ((Below.refl _ _).alloc (Nat.le_refl _) _)
  unfold Oper.wp execOp
  have hr : (Instr.buildSlice 22 0 #[]).run Tryd.prog w = .ok (.slice (some ⟨w.heap.size, 0, none⟩) 0 0) (w.alloc (.cells #[] 5)) := by kernel_rfl
  simp only [ho, Sem.run_bind, Sem.run_pure, Result.andThen_ok, Array.map_empty, List.map_toArray, List.map_nil, hr]
  exact hh
theorem nil_cap {B : Nat} {w : World} {a : Option Addr} {n cap : Nat} {l : List UInt8} (h : OwnB B w (.slice a n cap) l) : a = none → cap = 0 := by
  obtain ⟨a', c', e, hc, _⟩ := h.form
  cases e
  rcases hc with ⟨_, e, _⟩ | ⟨g, e, _⟩
  · exact fun _ => e
  · intro e2; rw [e] at e2; cases e2

set_option maxRecDepth 100000 in
set_option maxHeartbeats 2000000 in
theorem rMix_any (s : ByteArray) (A B : List UInt8) (hA : A.length = 32) (hB : B.length = 32) (w : World) (hs : s.size ≤ 100000) :
    Calls Tryd.prog 16 #[.string s, .agg (bvA A), .agg (bvA B)] w fun e w' => e = .returned (.agg (bvA (mixS s A B))) ∧ Below w.heap.size w w' := by
  have HA := Lib.hid hA
  have HB := Lib.hid hB
  have HL := Lib.hid (mixS_len s A B)
  have HX0 : Hid (mixS s A B = tagS tagMix (sha s.data.toList ++ A ++ B)) := Lib.hid rfl
  generalize mixS s A B = X at *
  have HSL := Lib.hid (sha_len s.data.toList)
  clear hA hB
  have hcv := fun W : World => Lib.run_convert_string_bytes (P := Tryd.prog) W 9 22 5 s Tryd.underlying9 Tryd.underlying22 Tryd.underlying5
  go_enter Tryd.func16, Tryd.ntmps16
  go_wp2_with fail
  have HM1 := Lib.hid (M3.start w A B)
  obtain ⟨w1, hw1⟩ : ∃ w1, w1 = ((w.alloc (.cells (bvA A) 24)).alloc (.cells (bvA B) 24)).alloc (.cells (bvA (List.replicate 32 0)) 24) := ⟨_, rfl⟩
  have hs1 : w1.heap.size = w.heap.size + 1 + 1 + 1 := by rw [hw1]; simp
  change Calls _ _ #[.slice (some ⟨w.heap.size + 1 + 1 + 1, 0, none⟩) s.data.toList.length (grownCap (((w.alloc (.cells (bvA A) 24)).alloc (.cells (bvA B) 24)).alloc (.cells (bvA (List.replicate 32 0)) 24)) s.size 0 5)] (Lib.bytesWorld (((w.alloc (.cells (bvA A) 24)).alloc (.cells (bvA B) 24)).alloc (.cells (bvA (List.replicate 32 0)) 24)) 5 s) _
  rw [← hw1] at HM1 ⊢
  rw [← hs1]
  have hb1 := below_bytesWorld w1 5 s
  have HM2 := Lib.hid (HM1.out.call hb1 HM1.out.size)
  refine (refSum (some ⟨w1.heap.size, 0, none⟩) (grownCap w1 s.size 0 5) s.data.toList (Lib.bytesWorld w1 5 s) (rd_bytesWorld w1 5 s (by unfold maxLen; omega)) (grownCap_ge w1 s.size 0 _) (grownCap_le_maxLen w1 s.size 0 _ (by unfold maxLen; omega)) (fun h => by cases h) (by have e : s.data.toList.length = s.size := Array.length_toList; omega)).mono ?_
  rintro e w3 ⟨rfl, hb3⟩
  have HM3 := Lib.hid (HM2.out.call hb3 HM2.out.size)
  obtain ⟨D, hD⟩ : ∃ D, sha s.data.toList = D := ⟨_, rfl⟩
  rw [hD] at HX0 HSL ⊢
  generalize w1.heap.size = g1
  generalize grownCap _ s.size 0 _ = cc
  clear hb3 HM2 HM1 hb1 hw1 hs1 hcv hD w1
  go_wp2_with (refine wpList_storeA rfl 43 (.tmp 7) (.tmp 11) rfl w3.heap.size (bvA D) rfl rfl 43 _ (BB.new w3 _ (List.replicate 32 0)) (dig_sz _ HSL.out) (key_old _ HSL.out) (bvA_one _) ?_)
  intro w4 h4 hg4
  have hb4 : Below w3.heap.size w3 w4 := grown_below ((Below.refl _ _).alloc (Nat.le_refl _) _) hg4 (Nat.le_refl _) (by simp)
  have HM4 := Lib.hid (HM3.out.call hb4 HM3.out.size)
  have HD4 : Hid (BB w4 w3.heap.size 43 D) := Lib.hid h4
  have HG : Hid (w.heap.size + 3 ≤ w3.heap.size ∧ w3.heap.size < w4.heap.size) := Lib.hid ⟨HM3.out.size, HD4.out.lt⟩
  clear hb4 h4 hg4 HM3
  generalize w3.heap.size = g at *
  go_wp2_with fail
  obtain ⟨P, hP⟩ : ∃ P, D ++ A = P := ⟨_, rfl⟩
  obtain ⟨Q, hQ⟩ : ∃ Q, P ++ B = Q := ⟨_, rfl⟩
  have HPL : Hid (P.length = 64) := Lib.hid (by rw [← hP, List.length_append, HSL.out, HA.out])
  have HQL : Hid (Q.length = 96) := Lib.hid (by rw [← hQ, List.length_append, HPL.out, HB.out])
  rw [hP, hQ] at HX0
  have HPP := Lib.hid hP
  have HQQ := Lib.hid hQ
  clear hP hQ
  have HE0 : Hid (Below w4.heap.size w4 w4.drew) := Lib.hid (Below.refl _ _).drew
  refine wp_region_held_drew (S := fun _ => True) (by kernel_rfl) trivial (fun hHeld => ?_)
  refine wpAnyH_take (i := 1) (v := .slice (some ⟨g, 0, none⟩) 32 32) rfl (by kernel_rfl) (by kernel_rfl) (by kernel_rfl) (fun _ _ _ h => h) (Or.inl ⟨by rfl, fun w _ => by go_simp⟩) hHeld ?_
  simp only [Act.put, List.getElem_toArray, List.getElem_cons_zero, List.getElem_cons_succ, List.setIfInBounds_toArray, List.set_cons_zero, List.set_cons_succ]
  refine wpAnyH_take (i := 3) (v := .slice (some ⟨w.heap.size, 0, none⟩) 32 32) rfl (by kernel_rfl) (by kernel_rfl) (by kernel_rfl) (fun _ _ _ h => h) (Or.inl ⟨by rfl, fun w _ => by go_simp⟩) hHeld ?_
  simp only [Act.put, List.getElem_toArray, List.getElem_cons_zero, List.getElem_cons_succ, List.setIfInBounds_toArray, List.set_cons_zero, List.set_cons_succ]
  refine wpAnyH_ready (rs := [0]) (by kernel_rfl) (by simp) (AllReadyH.cons rfl (fun K hK => ?_) AllReadyH.nil)
  rw [if_pos (by rfl)]
  refine wp_nil0 rfl ?_
  intro u2 g2 ho hg2 hb
  have HO2 : Hid (OwnB w4.heap.size u2 (.slice (some ⟨g2, 0, none⟩) 0 0) []) := Lib.hid (ho.mono HE0.out.size)
  have HE2 := Lib.hid (HE0.out.trans (hb.mono HE0.out.size))
  clear ho hg2 hb
  refine hK.out _ _ trivial (fun hHeld => ?_)
  clear hK K
  try simp only [Act.put, List.getElem_toArray, List.getElem_cons_zero, List.getElem_cons_succ, List.setIfInBounds_toArray, List.set_cons_zero, List.set_cons_succ]
  refine wpAnyH_ready (rs := [2]) (by kernel_rfl) (by simp) (AllReadyH.cons rfl (fun K hK => ?_) AllReadyH.nil)
  rw [if_pos (by rfl)]
  refine wp_appB (.tmp 12) (.tmp 13) rfl w4.heap.size _ [] D (some ⟨g, 0, none⟩) 32 rfl HO2.out (by rw [HSL.out]; rfl) ((HD4.out.below HE2.out HG.out.2).rdBm HSL.out) (fun h => by cases h) (by rw [HSL.out]; decide) HE2.out.size ?_
  intro v3 u3 ho hg
  have HO3 : Hid (OwnB w4.heap.size u3 v3 D) := Lib.hid ho
  have HE3 := Lib.hid (HE2.out.trans (hg.below (fun r hr => HO2.out.base r hr) HE2.out.size))
  clear ho hg
  refine hK.out _ _ trivial (fun hHeld => ?_)
  clear hK K
  try simp only [Act.put, List.getElem_toArray, List.getElem_cons_zero, List.getElem_cons_succ, List.setIfInBounds_toArray, List.set_cons_zero, List.set_cons_succ]
  refine wpAnyH_ready (rs := [4]) (by kernel_rfl) (by simp) (AllReadyH.cons rfl (fun K hK => ?_) AllReadyH.nil)
  rw [if_pos (by rfl)]
  refine wp_appB (.tmp 14) (.tmp 15) rfl w4.heap.size _ D A (some ⟨w.heap.size, 0, none⟩) 32 rfl HO3.out (by rw [HA.out]; rfl) ((HM4.out.ka.below HE3.out (by have := HM4.out.size; omega)).rdBm HA.out) (fun h => by cases h) (by rw [HSL.out, HA.out]; decide) HE3.out.size ?_
  intro v4 u4 ho hg
  have HO4 : Hid (OwnB w4.heap.size u4 v4 P) := Lib.hid (HPP.out ▸ ho)
  have HE4 := Lib.hid (HE3.out.trans (hg.below (fun r hr => HO3.out.base r hr) HE3.out.size))
  clear ho hg
  refine hK.out _ _ trivial (fun hHeld => ?_)
  clear hK K
  try simp only [Act.put, List.getElem_toArray, List.getElem_cons_zero, List.getElem_cons_succ, List.setIfInBounds_toArray, List.set_cons_zero, List.set_cons_succ]
  refine wpAnyH_take (i := 5) (v := v4) rfl (by kernel_rfl) (by kernel_rfl) (by kernel_rfl) (fun _ _ _ h => h) (Or.inl ⟨by rfl, fun w _ => by go_simp⟩) hHeld ?_
  simp only [Act.put, List.getElem_toArray, List.getElem_cons_zero, List.getElem_cons_succ, List.setIfInBounds_toArray, List.set_cons_zero, List.set_cons_succ]
  refine wpAnyH_done (by kernel_rfl) ?_ _
  have HM5 := Lib.hid (HM4.out.call HE4.out HM4.out.size)
  have HZ4 : Hid (w.heap.size + 3 ≤ w4.heap.size) := Lib.hid HM4.out.size
  have HO5 := Lib.hid (HO4.out.mono HZ4.out)
  clear hHeld HO2 HE2 HO3 HE3 HO4 HE4 HE0 HD4 HM4
  go_wp2_with ((with_reducible show wpList _ _ _ (({ dst := some 19, op := _, type := _, pos := _, after := _, guard := _ } : Oper) :: _) _ _); go_must (refine wpList_appB rfl (.tmp 17) (.tmp 18) rfl (w.heap.size + 3) _ P B (some ⟨w.heap.size + 1, 0, none⟩) 32 rfl HO5.out (by rw [HB.out]; rfl) (HM5.out.kb.rdBm HB.out) (fun h => by cases h) (by rw [HPL.out, HB.out]; decide) HM5.out.size ?_))
  intro v6 w6 ho6 hg6
  rw [HQQ.out] at ho6
  obtain ⟨a6, cap6, rfl, _, _⟩ := ho6.form
  have HM6 := Lib.hid (HM5.out.call (hg6.below (fun k hk => HO5.out.base k hk) HM5.out.size) (Nat.le_refl _))
  have hc := refTagged ⟨#[109, 105, 120]⟩ a6 cap6 Q w6 ho6.rd ho6.caps.1 ho6.caps.2 (nil_cap ho6) (by decide) (by rw [HQL.out]; decide)
  rw [show tagS (ByteArray.mk #[109, 105, 120]).data.toList Q = X from HX0.out.symm] at hc
  have HC := Lib.hid hc
  clear ho6 hg6 hc HO5 HM5
  rw [HQL.out] at HC ⊢
  go_wp2_with (go_at_call 29; refine HC.out.mono ?_; rintro e w7 ⟨rfl, hb7⟩; refine Hid.out ?_)
  refine Lib.hid ?_
  have HM7 := Lib.hid (HM6.out.call hb7 HM6.out.size)
  clear hb7 HM6 HC
  go_wp2_with (refine wpList_storeA rfl 24 (.tmp 6) (.tmp 20) rfl (w.heap.size + 2) (bvA X) rfl rfl 24 _ HM7.out.out (key_sz _ HL.out) (key_old _ HL.out) (bvA_one _) ?_)
  intro w10 h10 hg10
  have hB10 := grown_below HM7.out.below hg10 (by omega) HM7.out.below.size
  go_wp2_with fail
  refine bodyPost_ret (v := .agg (bvA X)) ?_ rfl ⟨rfl, hB10⟩
  exact results_cell_row rfl _ _ (w.heap.size + 2) 24 _ (0, 0) _ rfl h10 key_und rfl (key_sz _ HL.out)

set_option maxRecDepth 100000 in
set_option maxHeartbeats 1600000 in
theorem rDScalar_any (K : List UInt8) (hK : K.length = 32) (s : ByteArray) (w : World) (hs : s.size ≤ 100000) :
    Calls Tryd.prog 20 #[.agg (bvA K), .string s] w fun e w' => e = .returned (.int .i64 (scS K s : Nat)) ∧ Below w.heap.size w w' := by
  have HK := Lib.hid hK
  have HEX := Lib.hid (fun W => rExpand_any K hK s none 0 [] W hs (RdM.nil _ _ _) (by decide) (fun _ h => by cases h))
  obtain ⟨x, hx⟩ : ∃ x, scS K s = x := ⟨_, rfl⟩
  have HX : Hid (scalS (tagS tagScalar (expS K s [])) = x) := Lib.hid hx
  have HEL := Lib.hid (expS_len K s [])
  obtain ⟨E, hE⟩ : ∃ E, expS K s [] = E := ⟨_, rfl⟩
  rw [hE] at HEX HEL HX
  rw [hx]
  have HA1 : Hid (BB (w.alloc (.cells (bvA K) 24)) w.heap.size 24 K) := Lib.hid (BB.new w _ _)
  have HB1 : Hid (Below w.heap.size w (w.alloc (.cells (bvA K) 24))) := Lib.hid ((Below.refl _ _).alloc (Nat.le_refl _) _)
  clear hK hE hx
  go_enter Tryd.func20, Tryd.ntmps20
  go_wp2_with (first
    | (refine wpList_load_row rfl 24 (.tmp 2) rfl w.heap.size rfl _ (bvA K) (0, 0) _ HA1.out Tryd.underlying24 rfl (key_sz _ HK.out) ?_)
    | (go_at_call 14; refine (HEX.out _).mono ?_; rintro e w2 ⟨rfl, hb2⟩; refine Hid.out ?_))
  refine Lib.hid ?_
  have HB2 := Lib.hid (HB1.out.trans (hb2.mono HB1.out.size))
  clear hb2 HA1 HB1
  go_wp2_with (refine wpList_storeA rfl 24 (.tmp 5) (.tmp 8) rfl w2.heap.size (bvA E) rfl rfl 24 _ (BB.new w2 _ (List.replicate 32 0)) (key_sz _ HEL.out) (key_old _ HEL.out) (bvA_one _) ?_)
  intro w3 h3 hg3
  have HA3 : Hid (BB w3 w2.heap.size 24 E) := Lib.hid h3
  have hb3 : Below w2.heap.size w2 w3 := grown_below ((Below.refl _ _).alloc (Nat.le_refl _) _) hg3 (Nat.le_refl _) (by simp)
  have HB3 := Lib.hid (HB2.out.trans (hb3.mono HB2.out.size))
  clear h3 hg3 hb3 HB2
  have hc := hScalar ⟨#[115, 99, 97, 108, 97, 114]⟩ (some ⟨w2.heap.size, 0, none⟩) 32 E w3 (HA3.out.rdBm HEL.out) (by rw [HEL.out]; omega) (by unfold maxLen; omega) (fun h => by cases h) (by decide) (by rw [HEL.out]; omega)
  rw [HEL.out, show scalS (tagS (ByteArray.mk #[115, 99, 97, 108, 97, 114]).data.toList E) = x from HX.out] at hc
  have HC := Lib.hid hc
  clear hc HA3
  generalize w2.heap.size = g at *
  go_wp2_with (go_at_call 36; refine HC.out.mono ?_; rintro e w4 ⟨rfl, hb4⟩)
  go_ret
  exact ⟨rfl, HB3.out.trans (hb4.mono HB3.out.size)⟩

set_option maxRecDepth 100000 in
set_option maxHeartbeats 1600000 in
theorem rStep_neg (K : List UInt8) (hK : K.length = 32) (n : Int) (hn : n < 0) (w : World) :
    Calls Tryd.prog 18 #[.agg (bvA K), .int .i64 n] w fun e w' => e = .returned (.tuple #[.agg (bvA zeroKey), .int .i64 1]) ∧ Below w.heap.size w w' := by
  have f1 : decide (n < 0) = true := decide_eq_true hn
  have hB0 : BB ((w.alloc (.cells (bvA K) 24)).alloc (.cells (bvA (List.replicate 32 0)) 24)) (w.heap.size + 1) 24 (List.replicate 32 0) := heap_alloc2_new w _ _
  have HZ : Hid (zeroKey.length = 32) := Lib.hid (by decide)
  go_enter Tryd.func18, Tryd.ntmps18
  go_wp2_with (first
    | (refine wpList_built rfl 24 #[] rfl [] rfl (bvA zeroKey) (by kernel_rfl) ?_)
    | (refine wpList_storeA rfl 24 (.tmp 4) (.tmp 9) rfl (w.heap.size + 1) (bvA zeroKey) rfl rfl 24 _ hB0 (key_sz _ HZ.out) (key_old _ HZ.out) (bvA_one _) ?_))
  intro w2 h2 hg2
  have hB2 : Below w.heap.size w w2 := grown_below (((Below.refl _ _).alloc (Nat.le_refl _) _).alloc (by simp) _) hg2 (by omega) (by simp; omega)
  go_wp2_with fail
  refine bodyPost_ret (v := .tuple #[.agg (bvA zeroKey), .int .i64 1]) ?_ rfl ⟨rfl, hB2⟩
  exact results_cell_row_tmp rfl _ _ (w.heap.size + 1) 24 _ (0, 0) _ rfl h2 key_und rfl (key_sz _ HZ.out) _ rfl

set_option maxRecDepth 100000 in
set_option maxHeartbeats 1600000 in
theorem rStep_big (K : List UInt8) (hK : K.length = 32) (n : Int) (hn : 65536 < n) (w : World) :
    Calls Tryd.prog 18 #[.agg (bvA K), .int .i64 n] w fun e w' => e = .returned (.tuple #[.agg (bvA zeroKey), .int .i64 2]) ∧ Below w.heap.size w w' := by
  have f1 : decide (n < 0) = false := decide_eq_false (by omega)
  have f2 : decide (65536 < n) = true := decide_eq_true hn
  have hB0 : BB ((w.alloc (.cells (bvA K) 24)).alloc (.cells (bvA (List.replicate 32 0)) 24)) (w.heap.size + 1) 24 (List.replicate 32 0) := heap_alloc2_new w _ _
  have HZ : Hid (zeroKey.length = 32) := Lib.hid (by decide)
  go_enter Tryd.func18, Tryd.ntmps18
  go_wp2_with (first
    | (refine wpList_built rfl 24 #[] rfl [] rfl (bvA zeroKey) (by kernel_rfl) ?_)
    | (refine wpList_storeA rfl 24 (.tmp 4) (.tmp 12) rfl (w.heap.size + 1) (bvA zeroKey) rfl rfl 24 _ hB0 (key_sz _ HZ.out) (key_old _ HZ.out) (bvA_one _) ?_))
  intro w2 h2 hg2
  have hB2 : Below w.heap.size w w2 := grown_below (((Below.refl _ _).alloc (Nat.le_refl _) _).alloc (by simp) _) hg2 (by omega) (by simp; omega)
  go_wp2_with fail
  refine bodyPost_ret (v := .tuple #[.agg (bvA zeroKey), .int .i64 2]) ?_ rfl ⟨rfl, hB2⟩
  exact results_cell_row_tmp rfl _ _ (w.heap.size + 1) 24 _ (0, 0) _ rfl h2 key_und rfl (key_sz _ HZ.out) _ rfl

set_option maxRecDepth 100000 in
set_option maxHeartbeats 2000000 in
theorem rStep_ok (K : List UInt8) (hK : K.length = 32) (n : Nat) (hn : n ≤ 65536) (w : World) :
    Calls Tryd.prog 18 #[.agg (bvA K), .int .i64 n] w fun e w' => e = .returned (.tuple #[.agg (bvA (stepS K n)), .int .i64 0]) ∧ Below w.heap.size w w' := by
  have f1 : decide ((n : Int) < 0) = false := decide_eq_false (by omega)
  have f2 : decide ((65536 : Int) < (n : Int)) = false := decide_eq_false (by omega)
  have HM1 := Lib.hid (R2.start w K)
  have HLS := Lib.hid (fun j => stepS_len hK j)
  have HEX : Hid (∀ j W, Calls Tryd.prog 14 #[.agg (bvA (stepS K j)), .string ⟨#[115, 116, 101, 112]⟩, .slice none 0 0] W fun e w' => e = .returned (.agg (bvA (stepS K (j + 1)))) ∧ Below W.heap.size W w') :=
    Lib.hid (fun j W => rExpand_any (stepS K j) (stepS_len hK j) ⟨#[115, 116, 101, 112]⟩ none 0 [] W (by decide) (RdM.nil _ _ _) (by decide) (fun _ h => by cases h))
  clear hK
  go_enter Tryd.func18, Tryd.ntmps18
  go_wp2_with fail
  go_loopw [6] (fun p wr => ∃ j : Nat, j ≤ n ∧ p = .int .i64 j ∧ R2 w (stepS K j) wr) (fun p _ => n - (intOf p).toNat)
  case atStart => exact ⟨0, Nat.zero_le _, rfl, HM1.out⟩
  case round =>
    clear HM1 f1 f2
    obtain ⟨j, hj, rfl, hM⟩ := hrel
    have HM := Lib.hid hM
    clear hM
    have HLj := Lib.hid (HLS.out j)
    by_cases hlt : j < n
    · have f1 : decide ((j : Int) < (n : Int)) = true := decide_eq_true (by omega)
      have HLj1 := Lib.hid (HLS.out (j + 1))
      have HEj := Lib.hid (HEX.out j)
      obtain ⟨y, hy0⟩ : ∃ y, stepS K (j + 1) = y := ⟨_, rfl⟩
      rw [hy0] at HLj1 HEj
      have HYY := Lib.hid hy0.symm
      clear hy0
      generalize stepS K j = x at *
      go_wp2_with (first
        | (refine wpList_load_row rfl 24 (.tmp 2) rfl w.heap.size rfl _ (bvA x) (0, 0) _ HM.out.key Tryd.underlying24 rfl (key_sz _ HLj.out) ?_)
        | (go_at_call 14; refine (HEj.out _).mono ?_; rintro e w1 ⟨rfl, hb1⟩; refine Hid.out ?_))
      refine Lib.hid ?_
      have HM2 := Lib.hid (HM.out.call hb1 HM.out.size)
      clear hb1 HM
      go_wp2_with (refine wpList_storeA rfl 24 (.tmp 2) (.tmp 19) rfl w.heap.size (bvA y) rfl rfl 24 _ HM2.out.key (key_sz _ HLj1.out) (by rw [bvA_size, bvA_size, HLj.out, HLj1.out]) (bvA_one _) ?_)
      intro w3 h3 hg3
      have HM3 : Hid (R2 w y w3) := Lib.hid ⟨grown_below HM2.out.below hg3 (Nat.le_refl _) HM2.out.below.size, h3, HM2.out.out.grown hg3 (by omega)⟩
      clear h3 hg3 HM2
      go_wp2_with fail
      go_roundw
      case rel => exact ⟨j + 1, by omega, by go_num, HYY.out ▸ HM3.out⟩
      case measure => simp [intOf]; omega
    · obtain rfl : j = n := by omega
      have f1 : decide ((j : Int) < (j : Int)) = false := decide_eq_false (by omega)
      obtain ⟨X, hX⟩ : ∃ X, stepS K j = X := ⟨_, rfl⟩
      rw [hX] at HM HLj
      have HX := Lib.hid hX
      clear hX
      go_wp2_with (first
        | (refine wpList_load_row rfl 24 (.tmp 2) rfl w.heap.size rfl _ (bvA X) (0, 0) _ HM.out.key Tryd.underlying24 rfl (key_sz _ HLj.out) ?_)
        | (refine wpList_storeA rfl 24 (.tmp 4) (.tmp 20) rfl (w.heap.size + 1) (bvA X) rfl rfl 24 _ HM.out.out (key_sz _ HLj.out) (key_old _ HLj.out) (bvA_one _) ?_))
      intro w5 h5 hg5
      have hB5 := grown_below HM.out.below hg5 (by omega) HM.out.below.size
      go_wp2_with fail
      refine bodyPost_ret (v := .tuple #[.agg (bvA X), .int .i64 0]) ?_ rfl ⟨by rw [HX.out], hB5⟩
      exact results_cell_row_tmp rfl _ _ (w.heap.size + 1) 24 _ (0, 0) _ rfl h5 key_und rfl (key_sz _ HLj.out) _ rfl
end Go.Proofs.YthcbnanohjkllaaDoor
