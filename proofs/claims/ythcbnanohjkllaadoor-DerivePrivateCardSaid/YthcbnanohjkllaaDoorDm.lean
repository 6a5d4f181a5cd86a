/-
  Contract of sane (chartroomlaw07): the examples of the chapter.
-/
import Derived.Test.YthcbnanohjkllaaDoorDl
namespace Go.Proofs.YthcbnanohjkllaaDoor
open Go.RowKit
set_option linter.unusedVariables false
set_option linter.unusedSimpArgs false

def exK : List UInt8 := [1, 2, 3] ++ List.replicate 29 0
def lblPath : ByteArray := ⟨#[112, 97, 116, 104]⟩
def lblNode : ByteArray := ⟨#[110, 111, 100, 101]⟩

set_option maxRecDepth 100000 in
set_option maxHeartbeats 4000000 in
theorem dsane_any (w : World) (hT : Tab w) : Calls Tryd.prog 10 #[] w fun e w' => e = .returned (.bool true) ∧ Below w.heap.size w w' := by
  have HT := Lib.hid hT
  have hk0 : exK.length = 32 := by decide
  have HZ : Hid (zeroKey.length = 32) := Lib.hid (by decide)
  have HS0 : Hid (∀ W, Tab W → Calls Tryd.prog 17 #[.agg (bvA exK), .int .i64 0] W fun e w' => e = .returned (.tuple #[.agg (bvA exK), .int .i64 0]) ∧ Below W.heap.size W w') := Lib.hid (fun W h => Step_ok exK hk0 0 (by decide) W h)
  have HS1 : Hid (∀ W, Tab W → Calls Tryd.prog 17 #[.agg (bvA exK), .int .i64 1] W fun e w' => e = .returned (.tuple #[.agg (bvA (stepS exK 1)), .int .i64 0]) ∧ Below W.heap.size W w') := Lib.hid (fun W h => Step_ok exK hk0 1 (by decide) W h)
  have HS2 : Hid (∀ W, Tab W → Calls Tryd.prog 17 #[.agg (bvA exK), .int .i64 2] W fun e w' => e = .returned (.tuple #[.agg (bvA (stepS exK 2)), .int .i64 0]) ∧ Below W.heap.size W w') := Lib.hid (fun W h => Step_ok exK hk0 2 (by decide) W h)
  have HS3 : Hid (∀ W, Tab W → Calls Tryd.prog 17 #[.agg (bvA (stepS exK 1)), .int .i64 1] W fun e w' => e = .returned (.tuple #[.agg (bvA (stepS exK 2)), .int .i64 0]) ∧ Below W.heap.size W w') := Lib.hid (fun W h => Step_ok (stepS exK 1) (stepS_len hk0 1) 1 (by decide) W h)
  have HSN : Hid (∀ W, Calls Tryd.prog 17 #[.agg (bvA exK), .int .i64 (-1)] W fun e w' => e = .returned (.tuple #[.agg (bvA zeroKey), .int .i64 1]) ∧ Below W.heap.size W w') := Lib.hid (fun W => Step_neg exK hk0 (-1) (by decide) W)
  have HSB : Hid (∀ W, Calls Tryd.prog 17 #[.agg (bvA exK), .int .i64 65537] W fun e w' => e = .returned (.tuple #[.agg (bvA zeroKey), .int .i64 2]) ∧ Below W.heap.size W w') := Lib.hid (fun W => Step_big exK hk0 65537 (by decide) W)
  have HL1 := Lib.hid (stepS_len hk0 1)
  have HL2 := Lib.hid (stepS_len hk0 2)
  have HSC := Lib.hid (fun W h => DScalar_any exK hk0 lblNode W h (by decide))
  have HEX := Lib.hid (fun W h => Expand_any exK hk0 lblPath none 0 [] W h (by decide) (RdM.nil _ _ _) (by decide) (fun _ h => by cases h))
  have HEN := Lib.hid (fun (a : Option Addr) (cap : Nat) (W : World) (h : RepS W.heap.size W a cap (kidsS lblPath [])) => encode_ok W.heap.size 3 0 ByteArray.empty a cap (kidsS lblPath []) W (by rw [kidsS_sz]; decide) (by have := kidsS_vsize lblPath []; have e : lblPath.size = 4 := rfl; simp at this; omega) ⟨by omega, by omega⟩ ⟨by omega, by omega⟩ empty_le2 h (Nat.le_refl _) (kidsS_chk lblPath []))
  have HFI := Lib.hid (fun W h => First_any none 0 [] W h ⟨Nat.zero_le _, .inl rfl⟩ (Nat.le_refl _) (Nat.zero_le _) (by decide))
  have HTS : Hid (∀ W, Tab W → Calls Tryd.prog 22 #[.string ⟨#[115, 101, 101, 100]⟩, .slice none 0 0] W fun e w' => e = .returned (.agg (bvA (tagS tagSeed []))) ∧ Below W.heap.size W w') := Lib.hid (fun W h => Tagged_any ⟨#[115, 101, 101, 100]⟩ none 0 [] W h ⟨Nat.zero_le _, .inl rfl⟩ (Nat.le_refl _) (Nat.zero_le _) (by decide) (by decide))
  have HLS := Lib.hid (tagS_len tagSeed [])
  have HLE := Lib.hid (expS_len exK lblPath [])
  have HPP := Lib.hid (purpS_pos lblPath [])
  have HPL : Hid ((purpS lblPath []).length ≤ 100) := Lib.hid (by have := purpS_len lblPath []; have e : lblPath.size = 4 := rfl; simp at this; omega)
  have HXE : Hid (expS exK lblPath [] = tagS tagDerive (exK ++ purpS lblPath [])) := Lib.hid rfl
  have hsb := scS_bd exK lblNode
  obtain ⟨P, hP⟩ : ∃ P, purpS lblPath [] = P := ⟨_, rfl⟩
  rw [hP] at HPP HPL HXE
  have HEN2 : Hid (∀ (W : World), RepS W.heap.size W (some ⟨W.heap.size - 1, 0, none⟩) 1 (kidsS lblPath []) → Calls Tryd.prog 21 #[.agg #[.int .i64 3, .int .i64 0, .string ByteArray.empty, .slice (some ⟨W.heap.size - 1, 0, none⟩) 1 1]] W fun e w' => ∃ v, e = .returned (.tuple #[v, .int .i64 0]) ∧ OwnB W.heap.size w' v P ∧ Below W.heap.size W w') := Lib.hid (fun W h => by rw [← hP]; exact HEN.out _ _ W h)
  clear HEN hP
  generalize expS exK lblPath [] = XE at *
  generalize tagS tagSeed [] = XS at *
  generalize scS exK lblNode = sc at *
  generalize stepS exK 1 = X1 at *
  generalize stepS exK 2 = X2 at *
  have HB0 : Hid (bvA exK = #[.int .u8 1, .int .u8 2, .int .u8 3, .int .u8 0, .int .u8 0, .int .u8 0, .int .u8 0, .int .u8 0, .int .u8 0, .int .u8 0, .int .u8 0, .int .u8 0, .int .u8 0, .int .u8 0, .int .u8 0, .int .u8 0, .int .u8 0, .int .u8 0, .int .u8 0, .int .u8 0, .int .u8 0, .int .u8 0, .int .u8 0, .int .u8 0, .int .u8 0, .int .u8 0, .int .u8 0, .int .u8 0, .int .u8 0, .int .u8 0, .int .u8 0, .int .u8 0]) := Lib.hid rfl
  obtain ⟨K, hKK⟩ : ∃ K, exK = K := ⟨_, rfl⟩
  have hbuilt : Tryd.prog.built 24 [(0, .int .u8 1), (1, .int .u8 2), (2, .int .u8 3)] = some (bvA exK) := by kernel_rfl
  rw [hKK] at hk0 HS0 HS1 HS2 HSN HSB HSC HEX HXE hbuilt
  clear HB0 hKK
  have HLK := Lib.hid hk0
  clear hk0 hT
  have HKB0 := Lib.hid (KB.start w)
  go_enter Tryd.func10, Tryd.ntmps10
  go_wp2_with (first
    | ((with_reducible show wpList _ _ _ (({ dst := some 17, op := _, type := _, pos := _, after := _, guard := _ } : Oper) :: _) _ _); go_must (refine wpList_built rfl 24 #[(0, .const (.int .u8 1)), (1, .const (.int .u8 2)), (2, .const (.int .u8 3))] rfl [(0, .int .u8 1), (1, .int .u8 2), (2, .int .u8 3)] (by kernel_rfl) (bvA K) hbuilt ?_))
    | (refine wpList_storeA rfl 24 (.tmp 1) (.tmp 17) rfl w.heap.size (bvA K) rfl rfl 24 _ (BB.new w _ (List.replicate 32 0)) (key_sz _ HLK.out) (key_old _ HLK.out) (bvA_one _) ?_))
  intro w1 h1 hg1
  have HKB1 := Lib.hid (HKB0.out.add K HLK.out h1 hg1)
  clear h1 hg1 hbuilt HKB0
  generalize w.heap.size = g1 at HKB1 ⊢
  -- R2
  go_wp2_with (first
    | (refine wpList_load_row rfl 24 (.tmp 1) rfl g1 rfl _ (bvA K) (0, 0) _ (HKB1.out.key g1 K (by simp)) Tryd.underlying24 rfl (key_sz _ HLK.out) ?_)
    | (go_at_call 17; refine (HS0.out _ (HT.out.below HKB1.out.below HT.out.lt)).mono ?_; rintro e v2 ⟨rfl, hb2⟩; refine Hid.out ?_))
  refine Lib.hid ?_
  have HKV2 := Lib.hid (HKB1.out.call hb2)
  clear hb2 HKB1
  go_wp2_with (refine wpList_storeA rfl 24 (.tmp 2) (.tmp 21) rfl v2.heap.size (bvA K) rfl rfl 24 _ (BB.new v2 _ (List.replicate 32 0)) (key_sz _ HLK.out) (key_old _ HLK.out) (bvA_one _) ?_)
  intro w2 h2 hg2
  have HKB2 := Lib.hid (HKV2.out.add K HLK.out h2 hg2)
  clear h2 hg2 HKV2
  generalize v2.heap.size = g2 at *
  clear v2
  -- R3
  go_wp2_with (first
    | (refine wpList_load_row rfl 24 (.tmp 1) rfl g1 rfl _ (bvA K) (0, 0) _ (HKB2.out.key g1 K (by simp)) Tryd.underlying24 rfl (key_sz _ HLK.out) ?_)
    | (go_at_call 17; refine (HS1.out _ (HT.out.below HKB2.out.below HT.out.lt)).mono ?_; rintro e v3 ⟨rfl, hb3⟩; refine Hid.out ?_))
  refine Lib.hid ?_
  have HKV3 := Lib.hid (HKB2.out.call hb3)
  clear hb3 HKB2
  go_wp2_with (refine wpList_storeA rfl 24 (.tmp 4) (.tmp 26) rfl v3.heap.size (bvA X1) rfl rfl 24 _ (BB.new v3 _ (List.replicate 32 0)) (key_sz _ HL1.out) (key_old _ HL1.out) (bvA_one _) ?_)
  intro w3 h3 hg3
  have HKB3 := Lib.hid (HKV3.out.add X1 HL1.out h3 hg3)
  clear h3 hg3 HKV3
  generalize v3.heap.size = g4 at *
  clear v3
  -- R4
  go_wp2_with (first
    | (refine wpList_load_row rfl 24 (.tmp 1) rfl g1 rfl _ (bvA K) (0, 0) _ (HKB3.out.key g1 K (by simp)) Tryd.underlying24 rfl (key_sz _ HLK.out) ?_)
    | (go_at_call 17; refine (HS2.out _ (HT.out.below HKB3.out.below HT.out.lt)).mono ?_; rintro e v4 ⟨rfl, hb4⟩; refine Hid.out ?_))
  refine Lib.hid ?_
  have HKV4 := Lib.hid (HKB3.out.call hb4)
  clear hb4 HKB3
  go_wp2_with (refine wpList_storeA rfl 24 (.tmp 6) (.tmp 31) rfl v4.heap.size (bvA X2) rfl rfl 24 _ (BB.new v4 _ (List.replicate 32 0)) (key_sz _ HL2.out) (key_old _ HL2.out) (bvA_one _) ?_)
  intro w4 h4 hg4
  have HKB4 := Lib.hid (HKV4.out.add X2 HL2.out h4 hg4)
  clear h4 hg4 HKV4
  generalize v4.heap.size = g6 at *
  clear v4
  -- R5
  go_wp2_with (first
    | (refine wpList_load_row rfl 24 (.tmp 4) rfl g4 rfl _ (bvA X1) (0, 0) _ (HKB4.out.key g4 X1 (by simp)) Tryd.underlying24 rfl (key_sz _ HL1.out) ?_)
    | (go_at_call 17; refine (HS3.out _ (HT.out.below HKB4.out.below HT.out.lt)).mono ?_; rintro e v5 ⟨rfl, hb5⟩; refine Hid.out ?_))
  refine Lib.hid ?_
  have HKV5 := Lib.hid (HKB4.out.call hb5)
  clear hb5 HKB4
  go_wp2_with (refine wpList_storeA rfl 24 (.tmp 8) (.tmp 36) rfl v5.heap.size (bvA X2) rfl rfl 24 _ (BB.new v5 _ (List.replicate 32 0)) (key_sz _ HL2.out) (key_old _ HL2.out) (bvA_one _) ?_)
  intro w5 h5 hg5
  have HKB5 := Lib.hid (HKV5.out.add X2 HL2.out h5 hg5)
  clear h5 hg5 HKV5
  generalize v5.heap.size = g8 at *
  clear v5
  -- R6
  go_wp2_with (first
    | (refine wpList_load_row rfl 24 (.tmp 1) rfl g1 rfl _ (bvA K) (0, 0) _ (HKB5.out.key g1 K (by simp)) Tryd.underlying24 rfl (key_sz _ HLK.out) ?_)
    | (go_at_call 17; refine (HSN.out _).mono ?_; rintro e v6 ⟨rfl, hb6⟩; refine Hid.out ?_))
  refine Lib.hid ?_
  have HKV6 := Lib.hid (HKB5.out.call hb6)
  clear hb6 HKB5
  go_wp2_with (refine wpList_storeA rfl 24 (.tmp 10) (.tmp 41) rfl v6.heap.size (bvA zeroKey) rfl rfl 24 _ (BB.new v6 _ (List.replicate 32 0)) (key_sz _ HZ.out) (key_old _ HZ.out) (bvA_one _) ?_)
  intro w6 h6 hg6
  have HKB6 := Lib.hid (HKV6.out.add zeroKey HZ.out h6 hg6)
  clear h6 hg6 HKV6
  generalize v6.heap.size = g10 at *
  clear v6
  -- R7
  go_wp2_with (first
    | (refine wpList_load_row rfl 24 (.tmp 1) rfl g1 rfl _ (bvA K) (0, 0) _ (HKB6.out.key g1 K (by simp)) Tryd.underlying24 rfl (key_sz _ HLK.out) ?_)
    | (go_at_call 17; refine (HSB.out _).mono ?_; rintro e v7 ⟨rfl, hb7⟩; refine Hid.out ?_))
  refine Lib.hid ?_
  have HKV7 := Lib.hid (HKB6.out.call hb7)
  clear hb7 HKB6
  go_wp2_with (refine wpList_storeA rfl 24 (.tmp 12) (.tmp 46) rfl v7.heap.size (bvA zeroKey) rfl rfl 24 _ (BB.new v7 _ (List.replicate 32 0)) (key_sz _ HZ.out) (key_old _ HZ.out) (bvA_one _) ?_)
  intro w7 h7 hg7
  have HKB7 := Lib.hid (HKV7.out.add zeroKey HZ.out h7 hg7)
  clear h7 hg7 HKV7
  generalize v7.heap.size = g12 at *
  clear v7
  -- R8
  have HRP := Lib.hid (OV.oneRep (w := w7) lblPath (by decide))
  have HKB8 := Lib.hid (HKB7.out.call ((Below.refl _ _).alloc (Nat.le_refl _) (.cells #[.int .i64 2, .int .i64 0, .string lblPath, .slice none 0 0] 40)))
  have HEN3 := Lib.hid (fun h => HEN2.out (w7.alloc (.cells #[.int .i64 2, .int .i64 0, .string lblPath, .slice none 0 0] 40)) h)
  rw [show (w7.alloc (.cells #[.int .i64 2, .int .i64 0, .string lblPath, .slice none 0 0] 40)).heap.size - 1 = w7.heap.size by simp] at HEN3
  go_wp2_with (go_at_call 21; refine (HEN3.out HRP.out).mono ?_; rintro e w9 ⟨v9, rfl, ho9, hb9⟩; refine Hid.out ?_)
  refine Lib.hid ?_
  have HKB9 := Lib.hid (HKB8.out.call hb9)
  have HO9 := Lib.hid ho9
  obtain ⟨a9, c9, rfl, _, _⟩ := ho9.form
  clear ho9 hb9 HKB8 HEN3 HRP HEN2 HKB7
  have hp1 : ((P.length : Int) == 0) = false := by have := HPP.out; rw [beq_eq_false_iff_ne]; omega
  generalize (w7.alloc (.cells #[.int .i64 2, .int .i64 0, .string lblPath, .slice none 0 0] 40)).heap.size = b9 at *
  generalize w7.heap.size = g7 at *
  clear w7
  have HSP : Hid (0 < sc) := Lib.hid (by omega)
  have f26 : decide ((0 : Int) < (sc : Int)) = true := decide_eq_true (by omega)
  have f30 : decide ((sc : Int) < 2305843009213688669) = true := decide_eq_true (by omega)
  have eK := fun W => equal_keyS K HLK.out W
  have eX2 := fun W => equal_keyS X2 HL2.out W
  have eXS := fun W => equal_keyS XS HLS.out W
  have eXE := fun W => equal_keyS XE HLE.out W
  obtain ⟨Q, hQ⟩ : ∃ Q, K ++ P = Q := ⟨_, rfl⟩
  have HQL : Hid (Q.length = 32 + P.length) := Lib.hid (by rw [← hQ, List.length_append, HLK.out])
  rw [hQ] at HXE
  have HQQ := Lib.hid hQ
  clear hQ hsb
  have HPP2 := Lib.hid hp1
  obtain ⟨p, hp⟩ : ∃ p, P.length = p := ⟨_, rfl⟩
  rw [hp] at hp1 HPL HQL ⊢
  have HPE := Lib.hid hp
  clear hp HPP HPP2
  go_wp2_with (first
    | (refine wpList_load_row rfl 24 (.tmp 1) rfl g1 rfl _ (bvA K) (0, 0) _ (HKB9.out.key g1 K (by simp)) Tryd.underlying24 rfl (key_sz _ HLK.out) ?_)
    | (go_at_call 19; refine (HSC.out _ (HT.out.below HKB9.out.below HT.out.lt)).mono ?_; rintro e w11 ⟨rfl, hb11⟩; refine Hid.out ?_))
  refine Lib.hid ?_
  have HKB11 := Lib.hid (HKB9.out.call hb11)
  have HO11 := Lib.hid (HO9.out.below hb11)
  clear hb11 HKB9 HO9 HSC HS0 HS1 HS2 HS3 HSN HSB
  go_wp2_with fail
  have HE0 : Hid (Below w11.heap.size w11 w11.drew) := Lib.hid (Below.refl _ _).drew
  refine wp_region_held_drew (S := KB w [(g12, zeroKey), (g10, zeroKey), (g8, X2), (g6, X2), (g4, X1), (g2, K), (g1, K)]) (by kernel_rfl) (HKB11.out.call HE0.out) (fun hHeld => ?_)
  refine wpAnyH_take (i := 0) (v := .agg (bvA K)) rfl (by kernel_rfl) (by kernel_rfl) (by kernel_rfl) (fun _ _ _ h => h) (yieldsIf_load_mid (by rfl) 24 (.tmp 2) rfl g2 0 rfl (K.map bv) _ (fun _ h => (h.key g2 K (by simp)).range) Tryd.underlying24 rfl (key_szl _ HLK.out)) hHeld ?_
  simp only [Act.put, List.getElem_toArray, List.getElem_cons_zero, List.getElem_cons_succ, List.setIfInBounds_toArray, List.set_cons_zero, List.set_cons_succ]
  refine wpAnyH_take (i := 1) (v := .agg (bvA K)) rfl (by kernel_rfl) (by kernel_rfl) (by kernel_rfl) (fun _ _ _ h => h) (yieldsIf_load_mid (by rfl) 24 (.tmp 1) rfl g1 0 rfl (K.map bv) _ (fun _ h => (h.key g1 K (by simp)).range) Tryd.underlying24 rfl (key_szl _ HLK.out)) hHeld ?_
  simp only [Act.put, List.getElem_toArray, List.getElem_cons_zero, List.getElem_cons_succ, List.setIfInBounds_toArray, List.set_cons_zero, List.set_cons_succ]
  refine wpAnyH_take (i := 2) (v := .bool true) rfl (by kernel_rfl) (by kernel_rfl) (by kernel_rfl) (fun _ _ _ h => h) (Or.inl ⟨by rfl, fun w _ => by go_simp⟩) hHeld ?_
  simp only [Act.put, List.getElem_toArray, List.getElem_cons_zero, List.getElem_cons_succ, List.setIfInBounds_toArray, List.set_cons_zero, List.set_cons_succ]
  refine wpAnyH_take (i := 3) (v := .bool true) rfl (by kernel_rfl) (by kernel_rfl) (by kernel_rfl) (fun _ _ _ h => h) (Or.inl ⟨by rfl, fun w _ => by go_simp⟩) hHeld ?_
  simp only [Act.put, List.getElem_toArray, List.getElem_cons_zero, List.getElem_cons_succ, List.setIfInBounds_toArray, List.set_cons_zero, List.set_cons_succ]
  refine wpAnyH_take (i := 4) (v := .agg (bvA X2)) rfl (by kernel_rfl) (by kernel_rfl) (by kernel_rfl) (fun _ _ _ h => h) (yieldsIf_load_mid (by rfl) 24 (.tmp 6) rfl g6 0 rfl (X2.map bv) _ (fun _ h => (h.key g6 X2 (by simp)).range) Tryd.underlying24 rfl (key_szl _ HL2.out)) hHeld ?_
  simp only [Act.put, List.getElem_toArray, List.getElem_cons_zero, List.getElem_cons_succ, List.setIfInBounds_toArray, List.set_cons_zero, List.set_cons_succ]
  refine wpAnyH_take (i := 5) (v := .agg (bvA X2)) rfl (by kernel_rfl) (by kernel_rfl) (by kernel_rfl) (fun _ _ _ h => h) (yieldsIf_load_mid (by rfl) 24 (.tmp 8) rfl g8 0 rfl (X2.map bv) _ (fun _ h => (h.key g8 X2 (by simp)).range) Tryd.underlying24 rfl (key_szl _ HL2.out)) hHeld ?_
  simp only [Act.put, List.getElem_toArray, List.getElem_cons_zero, List.getElem_cons_succ, List.setIfInBounds_toArray, List.set_cons_zero, List.set_cons_succ]
  refine wpAnyH_take (i := 6) (v := .bool true) rfl (by kernel_rfl) (by kernel_rfl) (by kernel_rfl) (fun _ _ _ h => h) (Or.inl ⟨by rfl, fun w _ => by go_simp⟩) hHeld ?_
  simp only [Act.put, List.getElem_toArray, List.getElem_cons_zero, List.getElem_cons_succ, List.setIfInBounds_toArray, List.set_cons_zero, List.set_cons_succ]
  refine wpAnyH_take (i := 7) (v := .bool true) rfl (by kernel_rfl) (by kernel_rfl) (by kernel_rfl) (fun _ _ _ h => h) (Or.inl ⟨by rfl, fun w _ => by go_simp⟩) hHeld ?_
  simp only [Act.put, List.getElem_toArray, List.getElem_cons_zero, List.getElem_cons_succ, List.setIfInBounds_toArray, List.set_cons_zero, List.set_cons_succ]
  refine wpAnyH_take (i := 8) (v := .bool true) rfl (by kernel_rfl) (by kernel_rfl) (by kernel_rfl) (fun _ _ _ h => h) (Or.inl ⟨by rfl, fun w _ => by go_simp⟩) hHeld ?_
  simp only [Act.put, List.getElem_toArray, List.getElem_cons_zero, List.getElem_cons_succ, List.setIfInBounds_toArray, List.set_cons_zero, List.set_cons_succ]
  refine wpAnyH_ready (rs := [9]) (by kernel_rfl) (by simp) (AllReadyH.cons rfl (fun K0 hK => ?_) AllReadyH.nil)
  rw [if_pos (by rfl)]
  go_simp
  refine (HFI.out _ (HT.out.below (HKB11.out.call HE0.out).below HT.out.lt)).mono ?_
  rintro e u1 ⟨rfl, hb⟩
  have HE1 := Lib.hid (HE0.out.trans (hb.mono HE0.out.size))
  try go_wp2_with fail
  refine hK.out _ _ (HKB11.out.call HE1.out) (fun hHeld => ?_)
  clear hK K0
  try simp only [Act.put, List.getElem_toArray, List.getElem_cons_zero, List.getElem_cons_succ, List.setIfInBounds_toArray, List.set_cons_zero, List.set_cons_succ]
  refine wpAnyH_ready (rs := [10]) (by kernel_rfl) (by simp) (AllReadyH.cons rfl (fun K0 hK => ?_) AllReadyH.nil)
  rw [if_pos (by rfl)]
  go_simp
  refine (HTS.out _ (HT.out.below (HKB11.out.call HE1.out).below HT.out.lt)).mono ?_
  rintro e u2 ⟨rfl, hb⟩
  have HE2 := Lib.hid (HE1.out.trans (hb.mono HE1.out.size))
  try go_wp2_with fail
  refine hK.out _ _ (HKB11.out.call HE2.out) (fun hHeld => ?_)
  clear hK K0
  try simp only [Act.put, List.getElem_toArray, List.getElem_cons_zero, List.getElem_cons_succ, List.setIfInBounds_toArray, List.set_cons_zero, List.set_cons_succ]
  refine wpAnyH_take (i := 11) (v := .bool true) rfl (by kernel_rfl) (by kernel_rfl) (by kernel_rfl) (fun _ _ _ h => h) (Or.inl ⟨by rfl, fun w _ => by go_simp⟩) hHeld ?_
  simp only [Act.put, List.getElem_toArray, List.getElem_cons_zero, List.getElem_cons_succ, List.setIfInBounds_toArray, List.set_cons_zero, List.set_cons_succ]
  refine wpAnyH_take (i := 12) (v := .bool true) rfl (by kernel_rfl) (by kernel_rfl) (by kernel_rfl) (fun _ _ _ h => h) (Or.inl ⟨by rfl, fun w _ => by go_simp⟩) hHeld ?_
  simp only [Act.put, List.getElem_toArray, List.getElem_cons_zero, List.getElem_cons_succ, List.setIfInBounds_toArray, List.set_cons_zero, List.set_cons_succ]
  refine wpAnyH_take (i := 13) (v := .bool true) rfl (by kernel_rfl) (by kernel_rfl) (by kernel_rfl) (fun _ _ _ h => h) (Or.inl ⟨by rfl, fun w _ => by go_simp⟩) hHeld ?_
  simp only [Act.put, List.getElem_toArray, List.getElem_cons_zero, List.getElem_cons_succ, List.setIfInBounds_toArray, List.set_cons_zero, List.set_cons_succ]
  refine wpAnyH_take (i := 14) (v := .agg (bvA K)) rfl (by kernel_rfl) (by kernel_rfl) (by kernel_rfl) (fun _ _ _ h => h) (yieldsIf_load_mid (by rfl) 24 (.tmp 1) rfl g1 0 rfl (K.map bv) _ (fun _ h => (h.key g1 K (by simp)).range) Tryd.underlying24 rfl (key_szl _ HLK.out)) hHeld ?_
  simp only [Act.put, List.getElem_toArray, List.getElem_cons_zero, List.getElem_cons_succ, List.setIfInBounds_toArray, List.set_cons_zero, List.set_cons_succ]
  refine wpAnyH_take (i := 17) (v := .slice (some ⟨g1, 0, none⟩) 32 32) rfl (by kernel_rfl) (by kernel_rfl) (by kernel_rfl) (fun _ _ _ h => h) (Or.inl ⟨by rfl, fun w _ => by go_simp⟩) hHeld ?_
  simp only [Act.put, List.getElem_toArray, List.getElem_cons_zero, List.getElem_cons_succ, List.setIfInBounds_toArray, List.set_cons_zero, List.set_cons_succ]
  refine wpAnyH_take (i := 19) (v := .slice a9 p c9) rfl (by kernel_rfl) (by kernel_rfl) (by kernel_rfl) (fun _ _ _ h => h) (Or.inl ⟨by rfl, fun w _ => by go_simp⟩) hHeld ?_
  simp only [Act.put, List.getElem_toArray, List.getElem_cons_zero, List.getElem_cons_succ, List.setIfInBounds_toArray, List.set_cons_zero, List.set_cons_succ]
  refine wpAnyH_ready (rs := [15, 16]) (by kernel_rfl) (by simp) (AllReadyH.cons rfl (fun K0 hK => ?_) (AllReadyH.cons rfl (fun K0 hK => ?_) AllReadyH.nil))
  · skip
    rw [if_pos (by rfl)]
    go_simp
    refine (HEX.out _ (HT.out.below (HKB11.out.call HE2.out).below HT.out.lt)).mono ?_
    rintro e u3 ⟨rfl, hb⟩
    have HE3 := Lib.hid (HE2.out.trans (hb.mono HE2.out.size))
    try go_wp2_with fail
    refine hK.out _ _ (HKB11.out.call HE3.out) (fun hHeld => ?_)
    clear hK K0
    try simp only [Act.put, List.getElem_toArray, List.getElem_cons_zero, List.getElem_cons_succ, List.setIfInBounds_toArray, List.set_cons_zero, List.set_cons_succ]
    refine wpAnyH_ready (rs := [16]) (by kernel_rfl) (by simp) (AllReadyH.cons rfl (fun K0 hK => ?_) AllReadyH.nil)
    rw [if_pos (by rfl)]
    refine wp_nil0 rfl ?_
    intro u4 g2 ho hg2 hb
    have HOE : Hid (OwnB w11.heap.size u4 (.slice (some ⟨g2, 0, none⟩) 0 0) []) := Lib.hid (ho.mono HE3.out.size)
    have HE4 := Lib.hid (HE3.out.trans (hb.mono HE3.out.size))
    clear ho hg2 hb
    refine hK.out _ _ (HKB11.out.call HE4.out) (fun hHeld => ?_)
    clear hK K0
    try simp only [Act.put, List.getElem_toArray, List.getElem_cons_zero, List.getElem_cons_succ, List.setIfInBounds_toArray, List.set_cons_zero, List.set_cons_succ]
    refine wpAnyH_ready (rs := [18]) (by kernel_rfl) (by simp) (AllReadyH.cons rfl (fun K0 hK => ?_) AllReadyH.nil)
    rw [if_pos (by rfl)]
    refine wp_appB (.tmp 104) (.tmp 105) rfl w11.heap.size _ [] K (some ⟨g1, 0, none⟩) 32 rfl HOE.out (by rw [HLK.out]; rfl) (((HKB11.out.call HE4.out).key g1 K (by simp)).rdBm HLK.out) (fun h => by cases h) (by rw [HLK.out]; decide) HE4.out.size ?_
    intro v5 u5 ho hg
    have HO5 : Hid (OwnB w11.heap.size u5 v5 K) := Lib.hid ho
    have HE5 := Lib.hid (HE4.out.trans (hg.below (fun r hr => HOE.out.base r hr) HE4.out.size))
    clear ho hg
    refine hK.out _ _ (HKB11.out.call HE5.out) (fun hHeld => ?_)
    clear hK K0
    try simp only [Act.put, List.getElem_toArray, List.getElem_cons_zero, List.getElem_cons_succ, List.setIfInBounds_toArray, List.set_cons_zero, List.set_cons_succ]
    refine wpAnyH_ready (rs := [20]) (by kernel_rfl) (by simp) (AllReadyH.cons rfl (fun K0 hK => ?_) AllReadyH.nil)
    rw [if_pos (by rfl)]
    refine wp_appB (.tmp 106) (.tmp 107) rfl w11.heap.size _ K P a9 c9 rfl HO5.out (by rw [HPE.out]; rfl) ((HO11.out.below HE5.out).rd) (nil_cap HO11.out) (by rw [HLK.out, HPE.out]; have := HPL.out; omega) HE5.out.size ?_
    intro v6 u6 ho hg
    rw [HQQ.out] at ho
    obtain ⟨a6, c6, rfl, -, -⟩ := ho.form
    have HO6 : Hid (OwnB w11.heap.size u6 (.slice a6 Q.length c6) Q) := Lib.hid ho
    have HE6 := Lib.hid (HE5.out.trans (hg.below (fun r hr => HO5.out.base r hr) HE5.out.size))
    clear ho hg
    refine hK.out _ _ (HKB11.out.call HE6.out) (fun hHeld => ?_)
    clear hK K0
    try simp only [Act.put, List.getElem_toArray, List.getElem_cons_zero, List.getElem_cons_succ, List.setIfInBounds_toArray, List.set_cons_zero, List.set_cons_succ]
    have hc := Tagged_any ⟨#[100, 101, 114, 105, 118, 101]⟩ a6 c6 Q u6 (HT.out.below (HKB11.out.call HE6.out).below HT.out.lt) HO6.out.rd HO6.out.caps.1 HO6.out.caps.2 (by decide) (by rw [HQL.out]; have := HPL.out; omega)
    rw [show tagS (ByteArray.mk #[100, 101, 114, 105, 118, 101]).data.toList Q = XE from HXE.out.symm] at hc
    have HC := Lib.hid hc
    clear hc
    refine wpAnyH_ready (rs := [21]) (by kernel_rfl) (by simp) (AllReadyH.cons rfl (fun K0 hK => ?_) AllReadyH.nil)
    rw [if_pos (by rfl)]
    go_simp
    refine HC.out.mono ?_
    rintro e u7 ⟨rfl, hb⟩
    have HE7 := Lib.hid (HE6.out.trans (hb.mono HE6.out.size))
    try go_wp2_with fail
    refine hK.out _ _ (HKB11.out.call HE7.out) (fun hHeld => ?_)
    clear hK K0
    try simp only [Act.put, List.getElem_toArray, List.getElem_cons_zero, List.getElem_cons_succ, List.setIfInBounds_toArray, List.set_cons_zero, List.set_cons_succ]
    refine wpAnyH_take (i := 22) (v := .bool true) rfl (by kernel_rfl) (by kernel_rfl) (by kernel_rfl) (fun _ _ _ h => h) (Or.inl ⟨by rfl, fun w _ => by go_simp⟩) hHeld ?_
    simp only [Act.put, List.getElem_toArray, List.getElem_cons_zero, List.getElem_cons_succ, List.setIfInBounds_toArray, List.set_cons_zero, List.set_cons_succ]
    refine wpAnyH_take (i := 23) (v := .bool true) rfl (by kernel_rfl) (by kernel_rfl) (by kernel_rfl) (fun _ _ _ h => h) (Or.inl ⟨by rfl, fun w _ => by go_simp⟩) hHeld ?_
    simp only [Act.put, List.getElem_toArray, List.getElem_cons_zero, List.getElem_cons_succ, List.setIfInBounds_toArray, List.set_cons_zero, List.set_cons_succ]
    refine wpAnyH_take (i := 24) (v := .bool true) rfl (by kernel_rfl) (by kernel_rfl) (by kernel_rfl) (fun _ _ _ h => h) (Or.inl ⟨by rfl, fun w _ => by go_simp⟩) hHeld ?_
    simp only [Act.put, List.getElem_toArray, List.getElem_cons_zero, List.getElem_cons_succ, List.setIfInBounds_toArray, List.set_cons_zero, List.set_cons_succ]
    refine wpAnyH_take (i := 25) (v := .int .i64 (sc : Int)) rfl (by kernel_rfl) (by kernel_rfl) (by kernel_rfl) (fun _ _ _ h => h) (Or.inl ⟨by rfl, fun w _ => by go_simp⟩) hHeld ?_
    simp only [Act.put, List.getElem_toArray, List.getElem_cons_zero, List.getElem_cons_succ, List.setIfInBounds_toArray, List.set_cons_zero, List.set_cons_succ]
    refine wpAnyH_take (i := 26) (v := .bool true) rfl (by kernel_rfl) (by kernel_rfl) (by kernel_rfl) (fun _ _ _ h => h) (Or.inl ⟨by rfl, fun w _ => by go_simp; exact HSP.out⟩) hHeld ?_
    simp only [Act.put, List.getElem_toArray, List.getElem_cons_zero, List.getElem_cons_succ, List.setIfInBounds_toArray, List.set_cons_zero, List.set_cons_succ]
    refine wpAnyH_take (i := 27) (v := .bool true) rfl (by kernel_rfl) (by kernel_rfl) (by kernel_rfl) (fun _ _ _ h => h) (Or.inl ⟨by rfl, fun w _ => by go_simp⟩) hHeld ?_
    simp only [Act.put, List.getElem_toArray, List.getElem_cons_zero, List.getElem_cons_succ, List.setIfInBounds_toArray, List.set_cons_zero, List.set_cons_succ]
    refine wpAnyH_take (i := 28) (v := .bool true) rfl (by kernel_rfl) (by kernel_rfl) (by kernel_rfl) (fun _ _ _ h => h) (Or.inl ⟨by rfl, fun w _ => by go_simp⟩) hHeld ?_
    simp only [Act.put, List.getElem_toArray, List.getElem_cons_zero, List.getElem_cons_succ, List.setIfInBounds_toArray, List.set_cons_zero, List.set_cons_succ]
    refine wpAnyH_take (i := 29) (v := .int .i64 (sc : Int)) rfl (by kernel_rfl) (by kernel_rfl) (by kernel_rfl) (fun _ _ _ h => h) (Or.inl ⟨by rfl, fun w _ => by go_simp⟩) hHeld ?_
    simp only [Act.put, List.getElem_toArray, List.getElem_cons_zero, List.getElem_cons_succ, List.setIfInBounds_toArray, List.set_cons_zero, List.set_cons_succ]
    refine wpAnyH_take (i := 30) (v := .bool true) rfl (by kernel_rfl) (by kernel_rfl) (by kernel_rfl) (fun _ _ _ h => h) (Or.inl ⟨by rfl, fun w _ => by go_simp⟩) hHeld ?_
    simp only [Act.put, List.getElem_toArray, List.getElem_cons_zero, List.getElem_cons_succ, List.setIfInBounds_toArray, List.set_cons_zero, List.set_cons_succ]
    refine wpAnyH_take (i := 31) (v := .bool true) rfl (by kernel_rfl) (by kernel_rfl) (by kernel_rfl) (fun _ _ _ h => h) (Or.inl ⟨by rfl, fun w _ => by go_simp⟩) hHeld ?_
    simp only [Act.put, List.getElem_toArray, List.getElem_cons_zero, List.getElem_cons_succ, List.setIfInBounds_toArray, List.set_cons_zero, List.set_cons_succ]
    refine wpAnyH_take (i := 32) (v := .bool true) rfl (by kernel_rfl) (by kernel_rfl) (by kernel_rfl) (fun _ _ _ h => h) (Or.inl ⟨by rfl, fun w _ => by go_simp⟩) hHeld ?_
    simp only [Act.put, List.getElem_toArray, List.getElem_cons_zero, List.getElem_cons_succ, List.setIfInBounds_toArray, List.set_cons_zero, List.set_cons_succ]
    refine wpAnyH_done (by kernel_rfl) ?_ _
    have HKBF := Lib.hid (HKB11.out.call HE7.out)
    clear hHeld
    go_wp2_with fail
    go_ret
    exact ⟨rfl, HKBF.out.below⟩
  · skip
    rw [if_pos (by rfl)]
    refine wp_nil0 rfl ?_
    intro u3 g2 ho hg2 hb
    have HOE : Hid (OwnB w11.heap.size u3 (.slice (some ⟨g2, 0, none⟩) 0 0) []) := Lib.hid (ho.mono HE2.out.size)
    have HE3 := Lib.hid (HE2.out.trans (hb.mono HE2.out.size))
    clear ho hg2 hb
    refine hK.out _ _ (HKB11.out.call HE3.out) (fun hHeld => ?_)
    clear hK K0
    try simp only [Act.put, List.getElem_toArray, List.getElem_cons_zero, List.getElem_cons_succ, List.setIfInBounds_toArray, List.set_cons_zero, List.set_cons_succ]
    refine wpAnyH_ready (rs := [15]) (by kernel_rfl) (by simp) (AllReadyH.cons rfl (fun K0 hK => ?_) AllReadyH.nil)
    rw [if_pos (by rfl)]
    go_simp
    refine (HEX.out _ (HT.out.below (HKB11.out.call HE3.out).below HT.out.lt)).mono ?_
    rintro e u4 ⟨rfl, hb⟩
    have HE4 := Lib.hid (HE3.out.trans (hb.mono HE3.out.size))
    replace HOE := Lib.hid (HOE.out.below hb)
    try go_wp2_with fail
    refine hK.out _ _ (HKB11.out.call HE4.out) (fun hHeld => ?_)
    clear hK K0
    try simp only [Act.put, List.getElem_toArray, List.getElem_cons_zero, List.getElem_cons_succ, List.setIfInBounds_toArray, List.set_cons_zero, List.set_cons_succ]
    refine wpAnyH_ready (rs := [18]) (by kernel_rfl) (by simp) (AllReadyH.cons rfl (fun K0 hK => ?_) AllReadyH.nil)
    rw [if_pos (by rfl)]
    refine wp_appB (.tmp 104) (.tmp 105) rfl w11.heap.size _ [] K (some ⟨g1, 0, none⟩) 32 rfl HOE.out (by rw [HLK.out]; rfl) (((HKB11.out.call HE4.out).key g1 K (by simp)).rdBm HLK.out) (fun h => by cases h) (by rw [HLK.out]; decide) HE4.out.size ?_
    intro v5 u5 ho hg
    have HO5 : Hid (OwnB w11.heap.size u5 v5 K) := Lib.hid ho
    have HE5 := Lib.hid (HE4.out.trans (hg.below (fun r hr => HOE.out.base r hr) HE4.out.size))
    clear ho hg
    refine hK.out _ _ (HKB11.out.call HE5.out) (fun hHeld => ?_)
    clear hK K0
    try simp only [Act.put, List.getElem_toArray, List.getElem_cons_zero, List.getElem_cons_succ, List.setIfInBounds_toArray, List.set_cons_zero, List.set_cons_succ]
    refine wpAnyH_ready (rs := [20]) (by kernel_rfl) (by simp) (AllReadyH.cons rfl (fun K0 hK => ?_) AllReadyH.nil)
    rw [if_pos (by rfl)]
    refine wp_appB (.tmp 106) (.tmp 107) rfl w11.heap.size _ K P a9 c9 rfl HO5.out (by rw [HPE.out]; rfl) ((HO11.out.below HE5.out).rd) (nil_cap HO11.out) (by rw [HLK.out, HPE.out]; have := HPL.out; omega) HE5.out.size ?_
    intro v6 u6 ho hg
    rw [HQQ.out] at ho
    obtain ⟨a6, c6, rfl, -, -⟩ := ho.form
    have HO6 : Hid (OwnB w11.heap.size u6 (.slice a6 Q.length c6) Q) := Lib.hid ho
    have HE6 := Lib.hid (HE5.out.trans (hg.below (fun r hr => HO5.out.base r hr) HE5.out.size))
    clear ho hg
    refine hK.out _ _ (HKB11.out.call HE6.out) (fun hHeld => ?_)
    clear hK K0
    try simp only [Act.put, List.getElem_toArray, List.getElem_cons_zero, List.getElem_cons_succ, List.setIfInBounds_toArray, List.set_cons_zero, List.set_cons_succ]
    have hc := Tagged_any ⟨#[100, 101, 114, 105, 118, 101]⟩ a6 c6 Q u6 (HT.out.below (HKB11.out.call HE6.out).below HT.out.lt) HO6.out.rd HO6.out.caps.1 HO6.out.caps.2 (by decide) (by rw [HQL.out]; have := HPL.out; omega)
    rw [show tagS (ByteArray.mk #[100, 101, 114, 105, 118, 101]).data.toList Q = XE from HXE.out.symm] at hc
    have HC := Lib.hid hc
    clear hc
    refine wpAnyH_ready (rs := [21]) (by kernel_rfl) (by simp) (AllReadyH.cons rfl (fun K0 hK => ?_) AllReadyH.nil)
    rw [if_pos (by rfl)]
    go_simp
    refine HC.out.mono ?_
    rintro e u7 ⟨rfl, hb⟩
    have HE7 := Lib.hid (HE6.out.trans (hb.mono HE6.out.size))
    try go_wp2_with fail
    refine hK.out _ _ (HKB11.out.call HE7.out) (fun hHeld => ?_)
    clear hK K0
    try simp only [Act.put, List.getElem_toArray, List.getElem_cons_zero, List.getElem_cons_succ, List.setIfInBounds_toArray, List.set_cons_zero, List.set_cons_succ]
    refine wpAnyH_take (i := 22) (v := .bool true) rfl (by kernel_rfl) (by kernel_rfl) (by kernel_rfl) (fun _ _ _ h => h) (Or.inl ⟨by rfl, fun w _ => by go_simp⟩) hHeld ?_
    simp only [Act.put, List.getElem_toArray, List.getElem_cons_zero, List.getElem_cons_succ, List.setIfInBounds_toArray, List.set_cons_zero, List.set_cons_succ]
    refine wpAnyH_take (i := 23) (v := .bool true) rfl (by kernel_rfl) (by kernel_rfl) (by kernel_rfl) (fun _ _ _ h => h) (Or.inl ⟨by rfl, fun w _ => by go_simp⟩) hHeld ?_
    simp only [Act.put, List.getElem_toArray, List.getElem_cons_zero, List.getElem_cons_succ, List.setIfInBounds_toArray, List.set_cons_zero, List.set_cons_succ]
    refine wpAnyH_take (i := 24) (v := .bool true) rfl (by kernel_rfl) (by kernel_rfl) (by kernel_rfl) (fun _ _ _ h => h) (Or.inl ⟨by rfl, fun w _ => by go_simp⟩) hHeld ?_
    simp only [Act.put, List.getElem_toArray, List.getElem_cons_zero, List.getElem_cons_succ, List.setIfInBounds_toArray, List.set_cons_zero, List.set_cons_succ]
    refine wpAnyH_take (i := 25) (v := .int .i64 (sc : Int)) rfl (by kernel_rfl) (by kernel_rfl) (by kernel_rfl) (fun _ _ _ h => h) (Or.inl ⟨by rfl, fun w _ => by go_simp⟩) hHeld ?_
    simp only [Act.put, List.getElem_toArray, List.getElem_cons_zero, List.getElem_cons_succ, List.setIfInBounds_toArray, List.set_cons_zero, List.set_cons_succ]
    refine wpAnyH_take (i := 26) (v := .bool true) rfl (by kernel_rfl) (by kernel_rfl) (by kernel_rfl) (fun _ _ _ h => h) (Or.inl ⟨by rfl, fun w _ => by go_simp; exact HSP.out⟩) hHeld ?_
    simp only [Act.put, List.getElem_toArray, List.getElem_cons_zero, List.getElem_cons_succ, List.setIfInBounds_toArray, List.set_cons_zero, List.set_cons_succ]
    refine wpAnyH_take (i := 27) (v := .bool true) rfl (by kernel_rfl) (by kernel_rfl) (by kernel_rfl) (fun _ _ _ h => h) (Or.inl ⟨by rfl, fun w _ => by go_simp⟩) hHeld ?_
    simp only [Act.put, List.getElem_toArray, List.getElem_cons_zero, List.getElem_cons_succ, List.setIfInBounds_toArray, List.set_cons_zero, List.set_cons_succ]
    refine wpAnyH_take (i := 28) (v := .bool true) rfl (by kernel_rfl) (by kernel_rfl) (by kernel_rfl) (fun _ _ _ h => h) (Or.inl ⟨by rfl, fun w _ => by go_simp⟩) hHeld ?_
    simp only [Act.put, List.getElem_toArray, List.getElem_cons_zero, List.getElem_cons_succ, List.setIfInBounds_toArray, List.set_cons_zero, List.set_cons_succ]
    refine wpAnyH_take (i := 29) (v := .int .i64 (sc : Int)) rfl (by kernel_rfl) (by kernel_rfl) (by kernel_rfl) (fun _ _ _ h => h) (Or.inl ⟨by rfl, fun w _ => by go_simp⟩) hHeld ?_
    simp only [Act.put, List.getElem_toArray, List.getElem_cons_zero, List.getElem_cons_succ, List.setIfInBounds_toArray, List.set_cons_zero, List.set_cons_succ]
    refine wpAnyH_take (i := 30) (v := .bool true) rfl (by kernel_rfl) (by kernel_rfl) (by kernel_rfl) (fun _ _ _ h => h) (Or.inl ⟨by rfl, fun w _ => by go_simp⟩) hHeld ?_
    simp only [Act.put, List.getElem_toArray, List.getElem_cons_zero, List.getElem_cons_succ, List.setIfInBounds_toArray, List.set_cons_zero, List.set_cons_succ]
    refine wpAnyH_take (i := 31) (v := .bool true) rfl (by kernel_rfl) (by kernel_rfl) (by kernel_rfl) (fun _ _ _ h => h) (Or.inl ⟨by rfl, fun w _ => by go_simp⟩) hHeld ?_
    simp only [Act.put, List.getElem_toArray, List.getElem_cons_zero, List.getElem_cons_succ, List.setIfInBounds_toArray, List.set_cons_zero, List.set_cons_succ]
    refine wpAnyH_take (i := 32) (v := .bool true) rfl (by kernel_rfl) (by kernel_rfl) (by kernel_rfl) (fun _ _ _ h => h) (Or.inl ⟨by rfl, fun w _ => by go_simp⟩) hHeld ?_
    simp only [Act.put, List.getElem_toArray, List.getElem_cons_zero, List.getElem_cons_succ, List.setIfInBounds_toArray, List.set_cons_zero, List.set_cons_succ]
    refine wpAnyH_done (by kernel_rfl) ?_ _
    have HKBF := Lib.hid (HKB11.out.call HE7.out)
    clear hHeld
    go_wp2_with fail
    go_ret
    exact ⟨rfl, HKBF.out.below⟩
end Go.Proofs.YthcbnanohjkllaaDoor
