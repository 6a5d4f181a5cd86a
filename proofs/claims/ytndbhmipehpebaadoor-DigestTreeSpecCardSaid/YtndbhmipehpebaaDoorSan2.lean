/-
  The examples of the chapter hold.
-/
import Derived.Test.YtndbhmipehpebaaDoorEqd
import Derived.Lib.SlBytesConst
namespace Go.Proofs.YtndbhmipehpebaaDoor
open Go.RowKit

theorem sha_abc : (sha [97, 98, 99]).take 4 = [186, 120, 22, 191] := by decide +kernel
theorem sha_nil : (sha []).take 4 = [227, 176, 196, 66] := by decide +kernel
theorem take4 {l : List UInt8} {a b c d : UInt8} (h : l.take 4 = [a, b, c, d]) : l[0]? = some a ∧ l[1]? = some b ∧ l[2]? = some c ∧ l[3]? = some d := by
  have e : ∀ i, i < 4 → l[i]? = ([a, b, c, d] : List UInt8)[i]? := fun i hi => by rw [← h, List.getElem?_take_of_lt hi]
  exact ⟨e 0 (by decide), e 1 (by decide), e 2 (by decide), e 3 (by decide)⟩
theorem BB.cells4 {w : World} {g : Nat} {T : TypeId} {l : List UInt8} {a b c d : UInt8} (h : BB w g T l) (h4 : l.take 4 = [a, b, c, d]) :
    w.cell? ⟨g, 0, none⟩ = some (bv a) ∧ w.cell? ⟨g, 1, none⟩ = some (bv b) ∧ w.cell? ⟨g, 2, none⟩ = some (bv c) ∧ w.cell? ⟨g, 3, none⟩ = some (bv d) := by
  obtain ⟨h0, h1, h2, h3⟩ := take4 h4
  have e : ∀ i x, l[i]? = some x → w.cell? ⟨g, i, none⟩ = some (bv x) := fun i x hx => by
    rw [cell_of_row w g i _ T (0, 0) h]; simp [bvA, hx]
  exact ⟨e 0 _ h0, e 1 _ h1, e 2 _ h2, e 3 _ h3⟩
theorem lenS_02 : lenS 0 2 = 1 := by
  rw [lenS_lo 0 2 (by decide) (half_bd 2 (by decide)).2.2, lenS_one 0 (half 2) (by have := (half_bd 2 (by decide)).1; omega)]
def one32 : List UInt8 := 1 :: List.replicate 31 0

theorem Below.drew' (w : World) : Below w.drew.heap.size w.drew w := ⟨rfl, rfl, rfl, Nat.le_refl _, fun _ _ => rfl⟩
set_option maxRecDepth 100000 in
set_option maxHeartbeats 6400000 in
theorem sane_any (w : World) (hT : Tab w) : Calls Tryd.prog 11 #[] w fun e w' => e = .returned (.bool true) ∧ Below w.heap.size w w' := by
  have HT := Lib.hid hT
  clear hT
  have hlt := HT.out.lt
  have hcv := fun (W : World) (C : Array Value) (n c : Nat) => Lib.run_convert_bytes_const (P := Tryd.prog) W 22 5 C n c Tryd.underlying22 Tryd.underlying5
  go_enter Tryd.func11, Tryd.ntmps11
  go_wp2_with fail
  clear hcv
  obtain ⟨w1, hw1⟩ : ∃ w1, w1 = w.alloc (.cells (bvA [97, 98, 99]) 5 (3, 4)) := ⟨_, rfl⟩
  change Calls _ _ #[.slice (some ⟨w.heap.size, 0, none⟩) ([97, 98, 99] : List UInt8).length 3] (w.alloc (.cells (bvA [97, 98, 99]) 5 (3, 4))) _
  have hB1 : Below w.heap.size w w1 := hw1 ▸ (Below.refl _ _).alloc (Nat.le_refl _) _
  have hr1 : RdB w1.heap.size w1 (some ⟨w.heap.size, 0, none⟩) [97, 98, 99] := by
    refine ⟨by unfold maxLen; simp, .inr ⟨w.heap.size, 0, rfl, by rw [hw1]; simp, fun j hj => ?_⟩⟩
    rw [hw1, cell_of_row _ _ _ _ _ _ (heap_alloc_new w _), Nat.zero_add, bvA_get _ _ hj]
  rw [← hw1]
  clear hw1
  refine (sum_any (some ⟨w.heap.size, 0, none⟩) 3 [97, 98, 99] w1 (HT.out.below hB1 hlt) hr1 (by simp) (by unfold maxLen; omega) (by simp)).mono ?_
  rintro e w2 ⟨rfl, hb2⟩
  have HB2 := Lib.hid (hB1.trans (hb2.mono hB1.size))
  clear hB1 hr1 hb2
  go_wp2_with fail
  refine (sum_any none 0 [] w2 (HT.out.below HB2.out hlt) ⟨Nat.zero_le _, .inl rfl⟩ (Nat.le_refl _) (Nat.zero_le _) (Nat.zero_le _)).mono ?_
  rintro e w3 ⟨rfl, hb3⟩
  have HB3 := Lib.hid (HB2.out.trans (hb3.mono HB2.out.size))
  have h4a := sha_abc
  have h4b := sha_nil
  have hsa := sha_sz [97, 98, 99]
  have hsb := sha_sz []
  have hoa := sha_old [97, 98, 99]
  have hob := sha_old []
  obtain ⟨SA, hSA⟩ : ∃ SA, SA = sha [97, 98, 99] := ⟨_, rfl⟩
  obtain ⟨SB, hSB⟩ : ∃ SB, SB = sha [] := ⟨_, rfl⟩
  rw [← hSA] at h4a hsa hoa ⊢
  rw [← hSB] at h4b hsb hob ⊢
  have H4A := Lib.hid h4a
  have H4B := Lib.hid h4b
  have HSA := Lib.hid hsa
  have HSB := Lib.hid hsb
  have HOA := Lib.hid hoa
  have HOB := Lib.hid hob
  clear hb3 h4a h4b hsa hsb hoa hob hSA hSB HB2
  go_wp2_with (refine wpList_storeA rfl 26 (.tmp 1) (.tmp 12) rfl w3.heap.size (bvA SA) rfl rfl 26 (bvA (List.replicate 32 0)) (heap_alloc2_old w3 _ _) HSA.out HOA.out (bvA_one _) ?_)
  intro w4 h4 hg4
  have hA4 : BB w4 w3.heap.size 26 SA := h4
  have hD4 : BB w4 (w3.heap.size + 1) 26 (List.replicate 32 0) := (hg4.block (w3.heap.size + 1) (by simp) (fun e => by injection e with e; omega)).trans (heap_alloc2_new w3 _ _)
  have hB4 : Below w3.heap.size w3 w4 := grown_below (((Below.refl _ _).alloc (Nat.le_refl _) _).alloc (by simp) _) hg4 (Nat.le_refl _) (by simp; omega)
  have HA4 := Lib.hid hA4
  have HD4 := Lib.hid hD4
  have HB4 := Lib.hid (HB3.out.trans (hB4.mono HB3.out.size))
  clear h4 hg4 hA4 hD4 hB4
  go_wp2_with (refine wpList_storeA rfl 26 (.tmp 2) (.tmp 13) rfl (w3.heap.size + 1) (bvA SB) rfl rfl 26 _ HD4.out HSB.out HOB.out (bvA_one _) ?_)
  intro w5 h5 hg5
  have HB5' : Below w3.heap.size w4 w5 := grown_below (Below.refl _ _) hg5 (by omega) (by have := HA4.out.lt; omega)
  have HX5 := Lib.hid (show BB w5 (w3.heap.size + 1) 26 SB from h5)
  have HA5 := Lib.hid (HA4.out.grown hg5 (by omega))
  have HB5 := Lib.hid (HB4.out.trans (HB5'.mono HB3.out.size))
  clear h5 hg5 HB5' HA4 HD4 HB4
  go_wp2_with fail
  refine (Path_bad none 0 0 0 w5 (by omega) (.inr (by omega))).mono ?_
  rintro e w6 ⟨rfl, hw6⟩
  subst hw6
  go_wp2_with fail
  change Calls _ _ #[.agg (bvA zero32), .int .i64 0, .int .i64 2, .slice none ([] : List (List UInt8)).length 0] _ _
  refine (Climb_bad zero32 0 2 none 0 [] w5 (by simp) (.inr (.inr (.inr (.inr (by show (0 : Nat) ≠ lenS 0 2; rw [lenS_02]; decide)))))).mono ?_
  rintro e w6 ⟨rfl, hb6⟩
  have HX6 := Lib.hid (HX5.out.below hb6 HX5.out.lt)
  have HA6 := Lib.hid (HA5.out.below hb6 (by have := HX5.out.lt; omega))
  have HB6 := Lib.hid (HB5.out.trans (hb6.mono HB5.out.size))
  have hz6 : w3.heap.size + 1 < w6.heap.size := HX6.out.lt
  have HSZ : Hid ((Tryd.prog.info? 26).map (·.size) = some (bvA zero32).size) := by show _ = _; kernel_rfl
  clear hb6 HX5 HA5 HB5
  go_wp2_with (refine wpList_storeA rfl 26 (.tmp 5) (.tmp 21) rfl w6.heap.size (bvA zero32) rfl rfl 26 (bvA (List.replicate 32 0)) (heap_alloc_new w6 _) HSZ.out rfl (bvA_one _) ?_)
  intro w7 h7 hg7
  have hB7 : Below w6.heap.size w6 w7 := grown_below ((Below.refl _ _).alloc (Nat.le_refl _) _) hg7 (Nat.le_refl _) (by simp)
  have HX7 := Lib.hid (HX6.out.below hB7 HX6.out.lt)
  have HA7 := Lib.hid (HA6.out.below hB7 (by omega))
  have HB7 := Lib.hid (HB6.out.trans (hB7.mono HB6.out.size))
  have hz7 : w3.heap.size + 1 < w7.heap.size := HX7.out.lt
  clear h7 hg7 hB7 HX6 HA6 HB6
  have HBT : Hid (Tryd.prog.built 26 [(0, .int .u8 1)] = some (bvA one32)) := by show _ = _; kernel_rfl
  go_wp2_with (refine wpList_built rfl 26 #[(0, .const (.int .u8 1))] rfl [(0, .int .u8 1)] ?_ (bvA one32) HBT.out ?_)
  change Calls _ _ #[.agg (bvA one32), .int .i64 ((0 : Nat) : Int), .int .i64 ((1 : Nat) : Int), .slice none ([] : List (List UInt8)).length 0] _ _
  refine (Climb_ok one32 0 1 none 0 [] w7 (by decide) (HT.out.below HB7.out hlt) ⟨Nat.zero_le _, fun _ h => (by cases h), .inl rfl⟩ (Nat.le_refl _) (Nat.zero_le _) (by decide) (by decide) (by rw [lenS_one 0 1 (by decide)]; rfl)).mono ?_
  rintro e w8 ⟨rfl, hb8⟩
  rw [climbS_one _ _ _ _ (by decide)]
  have HX8 := Lib.hid (HX7.out.below hb8 HX7.out.lt)
  have HA8 := Lib.hid (HA7.out.below hb8 (by omega))
  have HB8 := Lib.hid (HB7.out.trans (hb8.mono HB7.out.size))
  have hz8 : w3.heap.size + 1 < w8.heap.size := HX8.out.lt
  obtain ⟨LF, hLF⟩ : ∃ LF, LF = leafS one32 := ⟨_, rfl⟩
  have hLF32 : LF.length = 32 := by rw [hLF]; exact sha_len _
  rw [← hLF]
  have HLF := Lib.hid hLF
  have HSL : Hid ((Tryd.prog.info? 26).map (·.size) = some (bvA LF).size) := by show _ = _; rw [bvA_size, hLF32]; exact sha_size
  have HOL : Hid ((bvA (List.replicate 32 0)).size = (bvA LF).size) := by show _ = _; rw [bvA_size, bvA_size, hLF32, List.length_replicate]
  have HL32 := Lib.hid hLF32
  clear hb8 HX7 HA7 HB7 hLF hLF32
  go_wp2_with (refine wpList_storeA rfl 26 (.tmp 7) (.tmp 26) rfl w8.heap.size (bvA LF) rfl rfl 26 (bvA (List.replicate 32 0)) (heap_alloc_new w8 _) HSL.out HOL.out (bvA_one _) ?_)
  intro w9 h9 hg9
  have hB9 : Below w8.heap.size w8 w9 := grown_below ((Below.refl _ _).alloc (Nat.le_refl _) _) hg9 (Nat.le_refl _) (by simp)
  have HX9 := Lib.hid (HX8.out.below hB9 HX8.out.lt)
  have HA9 := Lib.hid (HA8.out.below hB9 (by omega))
  have HB9 := Lib.hid (HB8.out.trans (hB9.mono HB8.out.size))
  have HL9 := Lib.hid (show BB w9 w8.heap.size 26 LF from h9)
  clear h9 hg9 hB9 HX8 HA8 HB8
  obtain ⟨a0, a1, a2, a3⟩ := HA9.out.cells4 H4A.out
  obtain ⟨b0, b1, b2, b3⟩ := HX9.out.cells4 H4B.out
  simp only [bv] at a0 a1 a2 a3 b0 b1 b2 b3
  go_wp2_with fail
  obtain ⟨cl, hcl⟩ : ∃ cl, cl = LF.map bv := ⟨_, rfl⟩
  have HCL := Lib.hid hcl
  have hu := digest_und
  have hi : (Tryd.prog.info? 26).map (·.size) = some cl.length := by rw [hcl, List.length_map, HL32.out]; exact sha_size
  have heq1 : ∀ W, (Op.equalIn 10000 26 (.agg cl.toArray) (.agg cl.toArray)).run Tryd.prog W = .ok true W := by rw [hcl]; exact equal_same LF HL32.out
  obtain ⟨EM, hEM⟩ : ∃ EM, EM = tagS [101, 109, 112, 116, 121] [] := ⟨_, rfl⟩
  have heq2 : ∀ W, (Op.equalIn 10000 26 (.agg (bvA EM)) (.agg (bvA EM))).run Tryd.prog W = .ok true W := equal_same EM (by rw [hEM]; exact tagS_len _ _)
  obtain ⟨CH, hCH⟩ : ∃ CH, CH = chainS zero32 zero32 := ⟨_, rfl⟩
  have heq3 : ∀ W, (Op.equalIn 10000 26 (.agg (bvA CH)) (.agg (bvA CH))).run Tryd.prog W = .ok true W := equal_same CH (by rw [hCH]; exact tagS_len _ _)
  have hS1 : w9.drew.rangeAt w8.heap.size 0 cl ∧ True := ⟨by rw [hcl]; exact HL9.out.drew.range, trivial⟩
  have hqg : Tryd.prog.eqGuardType Tryd.prog.depth 26 = false := by kernel_rfl
  have hmk := fun W : World => (by kernel_rfl : (Instr.makeSlice 22 (.int .i64 64) (.int .i64 64)).run Tryd.prog W = .ok (.slice (some ⟨W.heap.size, 0, none⟩) 64 64) (W.alloc (.cells (bvA (List.replicate 64 0)) 5)))
  have c1 : Hid (∀ W g, Below w.heap.size w W → BB W g 26 one32 → Calls Tryd.prog 17 #[.slice (some ⟨g, 0, none⟩) 1 1] W fun e w2 => e = .returned (.agg cl.toArray) ∧ Below W.heap.size W w2) := by
    intro W g hW hb
    have h := tree_any 2 (some ⟨g, 0, none⟩) 1 [one32] W (by decide) (HT.out.below hW hlt) (RdD.one hb (by decide)) (by decide) (by unfold maxLen; omega)
    rw [treeS_one, ← HLF.out] at h
    rw [hcl]; exact h
  have c2 : Hid (∀ W, Below w.heap.size w W → Calls Tryd.prog 17 #[.slice none 0 0] W fun e w2 => e = .returned (.agg (bvA EM)) ∧ Below W.heap.size W w2) := by
    intro W hW
    have h := tree_any 1 none 0 [] W (by decide) (HT.out.below hW hlt) ⟨Nat.zero_le _, fun _ h => (by cases h), .inl rfl⟩ (Nat.le_refl _) (Nat.zero_le _)
    rw [treeS_nil, ← hEM] at h
    exact h
  have c3 : Hid (∀ W, Below w.heap.size w W → Calls Tryd.prog 14 #[.string ⟨#[101, 109, 112, 116, 121]⟩, .slice none 0 0] W fun e w2 => e = .returned (.agg (bvA EM)) ∧ Below W.heap.size W w2) := by
    intro W hW
    have h := Tagged_any ⟨#[101, 109, 112, 116, 121]⟩ none 0 [] W (HT.out.below hW hlt) ⟨Nat.zero_le _, .inl rfl⟩ (Nat.le_refl _) (Nat.zero_le _) (by decide) (Nat.zero_le _)
    rw [hEM]
    exact h
  have c4 : Hid (∀ W, Below w.heap.size w W → Calls Tryd.prog 25 #[.agg (bvA zero32), .agg (bvA zero32)] W fun e w2 => e = .returned (.agg (bvA CH)) ∧ Below W.heap.size W w2) := by
    intro W hW
    rw [hCH]
    exact chain_any zero32 zero32 (by decide) (by decide) W (HT.out.below hW hlt)
  have c5 : Hid (∀ W g, Below w.heap.size w W → BB W g 5 (List.replicate 64 0) → Calls Tryd.prog 14 #[.string ⟨#[99, 104, 97, 105, 110]⟩, .slice (some ⟨g, 0, none⟩) 64 64] W fun e w2 => e = .returned (.agg (bvA CH)) ∧ Below W.heap.size W w2) := by
    intro W g hW hb
    have h := Tagged_any ⟨#[99, 104, 97, 105, 110]⟩ (some ⟨g, 0, none⟩) 64 (List.replicate 64 0) W (HT.out.below hW hlt) (hb.rdB (by unfold maxLen; simp)) (by simp) (by unfold maxLen; omega) (by decide) (by simp)
    rw [List.length_replicate] at h
    rw [hCH]
    exact h
  clear hcl hEM hCH a0 a1 a2 a3 b0 b1 b2 b3
  have hlt9 : w8.heap.size < w9.heap.size := HL9.out.lt
  have KEEP : Hid (∀ W W' : World, W.rangeAt w8.heap.size 0 cl ∧ True → w8.heap.size < W.heap.size → Below W.heap.size W W' → W'.rangeAt w8.heap.size 0 cl ∧ True) := fun W W' h hz hb =>
    ⟨fun i v hv => (hb.cell (p := ⟨w8.heap.size, _, none⟩) hz).trans (h.1 i v hv), trivial⟩
  go_region_held3 (fun w' => w'.rangeAt w8.heap.size 0 cl ∧ True)
    (first
      | exact hS14
      | exact hS13
      | exact hS12
      | exact hS11
      | exact hS10
      | exact hS1
      | go_keep_ranges)
    (first
      | (go_at_call 17
         with_reducible refine (c1.out _ w9.heap.size ?_ ?_).mono ?_
         · exact (HB9.out.alloc HB9.out.size _).drew
         · exact BB.new w9 _ one32
         rintro e w10 ⟨rfl, hb10⟩
         have hx10 : Below w9.heap.size w9 w10 := (((Below.refl _ _).alloc (Nat.le_refl _) _).drew).trans (hb10.mono (le_alloc_drew (Nat.le_refl _) _))
         have hS10 := KEEP.out _ _ hS1 hlt9 ((Below.drew' w9).trans hx10)
         have HB10 := Lib.hid (HB9.out.trans (hx10.mono HB9.out.size))
         have hz10 : w8.heap.size < w10.heap.size := Nat.lt_of_lt_of_le hlt9 hx10.size
         clear hb10 hx10)
      | (go_at_call 17
         with_reducible refine (c2.out _ ?_).mono ?_
         · exact HB10.out
         rintro e w11 ⟨rfl, hb11⟩
         have hS11 := KEEP.out _ _ hS10 hz10 hb11
         have HB11 := Lib.hid (HB10.out.trans (hb11.mono HB10.out.size))
         have hz11 : w8.heap.size < w11.heap.size := Nat.lt_of_lt_of_le hz10 hb11.size
         clear hb11)
      | (go_at_call 14
         with_reducible refine (c3.out _ ?_).mono ?_
         · exact HB11.out
         rintro e w12 ⟨rfl, hb12⟩
         have hS12 := KEEP.out _ _ hS11 hz11 hb12
         have HB12 := Lib.hid (HB11.out.trans (hb12.mono HB11.out.size))
         have hz12 : w8.heap.size < w12.heap.size := Nat.lt_of_lt_of_le hz11 hb12.size
         clear hb12)
      | (go_at_call 25
         refine (c4.out _ ?_).mono ?_
         · exact HB12.out
         rintro e w13 ⟨rfl, hb13⟩
         have hS13 := KEEP.out _ _ hS12 hz12 hb13
         have HB13 := Lib.hid (HB12.out.trans (hb13.mono HB12.out.size))
         have hz13 : w8.heap.size < w13.heap.size := Nat.lt_of_lt_of_le hz12 hb13.size
         clear hb13)
      | (go_at_call 14
         with_reducible refine (c5.out _ _ ?_ ?_).mono ?_
         · exact HB13.out.alloc HB13.out.size _
         · exact BB.new w13 _ (List.replicate 64 0)
         rintro e w14 ⟨rfl, hb14⟩
         have hx14 : Below w13.heap.size w13 w14 := ((Below.refl _ _).alloc (Nat.le_refl _) _).trans (hb14.mono (le_alloc (Nat.le_refl _) _))
         have hS14 := KEEP.out _ _ hS13 hz13 hx14
         have HB14 := Lib.hid (HB13.out.trans (hx14.mono HB13.out.size))
         clear hb14 hx14)
      | (go_at_call 25
         refine (c4.out _ ?_).mono ?_
         · exact HB12.out.alloc HB12.out.size _
         rintro e w13 ⟨rfl, hb13⟩
         have hx13 : Below w12.heap.size w12 w13 := ((Below.refl _ _).alloc (Nat.le_refl _) _).trans (hb13.mono (le_alloc (Nat.le_refl _) _))
         have HZ13 := Lib.hid ((BB.new w12 5 (List.replicate 64 0)).below hb13 (lt_alloc _ _))
         have hS13 := KEEP.out _ _ hS12 hz12 hx13
         have HB13 := Lib.hid (HB12.out.trans (hx13.mono HB12.out.size))
         have hz13 : w8.heap.size < w13.heap.size := Nat.lt_of_lt_of_le hz12 hx13.size
         clear hb13 hx13)
      | (go_at_call 14
         with_reducible refine (c5.out _ _ ?_ ?_).mono ?_
         · exact HB13.out
         · exact HZ13.out
         rintro e w14 ⟨rfl, hb14⟩
         have hS14 := KEEP.out _ _ hS13 hz13 hb14
         have HB14 := Lib.hid (HB13.out.trans (hb14.mono HB13.out.size))
         clear hb14))
  all_goals
    go_wp2_with fail
    go_ret
    exact ⟨rfl, HB14.out⟩
end Go.Proofs.YtndbhmipehpebaaDoor
