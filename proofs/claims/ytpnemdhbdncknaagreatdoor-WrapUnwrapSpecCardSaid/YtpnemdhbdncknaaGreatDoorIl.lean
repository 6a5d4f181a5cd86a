/-
  The reference of wrap: Key.
-/
import Derived.Test.YtpnemdhbdncknaaGreatDoorIk
import Derived.Test.YtpnemdhbdncknaaGreatDoorPkR
import Derived.Test.YtpnemdhbdncknaaGreatDoorPkS
namespace Go.Proofs.YtpnemdhbdncknaaGreatDoor
open Go.RowKit
set_option linter.unusedVariables false
set_option linter.unusedSimpArgs false

set_option maxRecDepth 100000 in
set_option maxHeartbeats 1600000 in
theorem rKey9_any (p u v : Int) (w : World) :
    Calls Tryz.prog 26 #[.int .i64 p, .int .i64 u, .int .i64 v] w fun e w' => e = .returned (.agg (bvA (wK p u v))) ∧ Below w.heap.size w w' := by
  skip
  have HNB := Lib.hid refBytes
  obtain ⟨X, hX⟩ : ∃ X, wK p u v = X := ⟨_, rfl⟩
  have HX : Hid (tagS (ByteArray.mk #[119, 114, 97, 112]).data.toList ((be8 p ++ be8 u) ++ be8 v) = X) := Lib.hid hX
  have HLX : Hid (X.length = 32) := Lib.hid (by rw [← hX]; exact wK_len _ _ _)
  rw [hX]
  clear hX
  have HL1 : Hid ((be8 p).length + (be8 u).length ≤ 140737488355328) := by show _ ≤ _; rw [be8_len, be8_len]; omega
  have HL2 : Hid ((be8 p ++ be8 u).length + (be8 v).length ≤ 140737488355328) := by show _ ≤ _; rw [List.length_append, be8_len, be8_len, be8_len]; omega
  have HL3 : Hid (((be8 p ++ be8 u) ++ be8 v).length = 24) := by show _ = _; simp [be8_len]
  obtain ⟨X2, hX2⟩ : ∃ X, X = be8 p ++ be8 u := ⟨_, rfl⟩
  rw [← hX2] at HL2 HL3 HX
  have HX2 := Lib.hid hX2
  clear hX2
  obtain ⟨X3, hX3⟩ : ∃ X, X = X2 ++ be8 v := ⟨_, rfl⟩
  rw [← hX3] at HL3 HX
  have HX3 := Lib.hid hX3
  clear hX3
  obtain ⟨w1, hw1⟩ : ∃ w1, w1 = w.alloc (.cells (bvA (List.replicate 32 0)) 23) := ⟨_, rfl⟩
  have HB1 : Hid (Below w.heap.size w w1) := Lib.hid (hw1 ▸ (Below.refl _ _).alloc (Nat.le_refl _) _)
  have HD1 : Hid (BB w1 w.heap.size 23 (List.replicate 32 0)) := Lib.hid (hw1 ▸ BB.new w _ _)
  go_enter Tryz.func26, Tryz.ntmps26
  go_wp2_with fail
  change Calls _ _ _ (w.alloc (.cells (bvA (List.replicate 32 0)) 23)) _
  rw [← hw1]
  clear hw1
  refine (HNB.out p _).mono ?_
  rintro e w2 ⟨v2, rfl, ho2, hb2⟩
  obtain ⟨a2, cap2, rfl, -, -⟩ := ho2.form
  have HO2 := Lib.hid ho2
  have HB2 := Lib.hid hb2
  clear ho2 hb2
  go_wp2_with fail
  refine (HNB.out u _).mono ?_
  rintro e w3 ⟨v3, rfl, ho3, hb3⟩
  obtain ⟨a3, cap3, rfl, -, -⟩ := ho3.form
  have HO2b := Lib.hid (HO2.out.below hb3)
  have HB3 := Lib.hid (HB2.out.trans (hb3.mono HB2.out.size))
  have HO3 := Lib.hid ho3
  clear ho3 hb3 HO2 HB2
  go_wp2_with (refine wpList_appB rfl (.tmp 9) (.tmp 11) rfl w1.heap.size _ (be8 p) (be8 u) a3 cap3 rfl HO2b.out rfl HO3.out.rdOf HO3.out.nilCap HL1.out HB3.out.size ?_)
  intro v4 w4 ho4 hg4
  rw [← HX2.out] at ho4
  obtain ⟨a4, cap4, rfl, -, -⟩ := ho4.form
  have HO4 := Lib.hid ho4
  have HB4 := Lib.hid (HB3.out.trans (hg4.below (fun k hk => HO2b.out.base k hk) HB3.out.size))
  clear ho4 hg4 HO2b HO3 HB3
  go_wp2_with fail
  refine (HNB.out v _).mono ?_
  rintro e w5 ⟨v5, rfl, ho5, hb5⟩
  obtain ⟨a5, cap5, rfl, -, -⟩ := ho5.form
  have HO4b := Lib.hid (HO4.out.below hb5)
  have HB5 := Lib.hid (HB4.out.trans (hb5.mono HB4.out.size))
  have HO5 := Lib.hid ho5
  clear ho5 hb5 HO4 HB4 HNB
  go_wp2_with (refine wpList_appB rfl (.tmp 12) (.tmp 14) rfl w1.heap.size _ X2 (be8 v) a5 cap5 rfl HO4b.out rfl HO5.out.rdOf HO5.out.nilCap HL2.out HB5.out.size ?_)
  intro v6 w6 ho6 hg6
  rw [← HX3.out] at ho6
  obtain ⟨a6, cap6, rfl, -, -⟩ := ho6.form
  have HO6 := Lib.hid ho6
  have HB6 := Lib.hid (HB5.out.trans (hg6.below (fun k hk => HO4b.out.base k hk) HB5.out.size))
  clear ho6 hg6 HO4b HO5 HB5
  have HD6 := Lib.hid (HD1.out.below HB6.out HD1.out.lt)
  have hc := refTagged ⟨#[119, 114, 97, 112]⟩ a6 cap6 X3 w6 HO6.out.rdOf HO6.out.caps.1 HO6.out.caps.2 HO6.out.nilCap (by decide) (by rw [HL3.out]; omega)
  rw [HX.out] at hc
  have HC := Lib.hid hc
  clear hc HO6
  generalize X3.length = n3 at *
  go_wp2_with (go_at_call 47; refine HC.out.mono ?_; rintro e w7 ⟨rfl, hb⟩; refine Hid.out ?_)
  refine Lib.hid ?_
  have HB7 := Lib.hid ((HB1.out.trans (HB6.out.mono HB1.out.size)).trans (hb.mono (Nat.le_trans HB1.out.size HB6.out.size)))
  have HD7 := Lib.hid (HD6.out.below hb HD6.out.lt)
  clear hb HB6 HD6 HC
  go_wp2_with (refine wpList_storeA rfl 23 (.tmp 6) (.tmp 17) rfl w.heap.size (bvA X) rfl rfl 23 _ HD7.out (key_sz _ HLX.out) (key_old _ HLX.out) (bvA_one _) ?_)
  intro w9 h9 hg9
  have hB9 := grown_below HB7.out hg9 (Nat.le_refl _) HB7.out.size
  go_wp2_with fail
  refine bodyPost_ret (v := .agg (bvA X)) ?_ rfl ⟨rfl, hB9⟩
  exact results_cell_row rfl _ _ w.heap.size 23 _ (0, 0) _ rfl h9 Tryz.underlying23 rfl (key_sz _ HLX.out)
end Go.Proofs.YtpnemdhbdncknaaGreatDoor
