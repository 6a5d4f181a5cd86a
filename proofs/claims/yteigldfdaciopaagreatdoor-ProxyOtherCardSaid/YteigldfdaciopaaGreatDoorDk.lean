/-
  The reference of package derive: Mix, Step, Scalar.
-/
import Derived.Test.YteigldfdaciopaaGreatDoorKb
import Derived.Test.YteigldfdaciopaaGreatDoorDj
import Derived.Test.YteigldfdaciopaaGreatDoorPkE
namespace Go.Proofs.YteigldfdaciopaaGreatDoor
open Go.RowKit
set_option linter.unusedVariables false
set_option linter.unusedSimpArgs false

set_option maxRecDepth 100000 in
set_option maxHeartbeats 1600000 in
theorem rDScalar_any (K : List UInt8) (hK : K.length = 32) (s : ByteArray) (w : World) (hs : s.size ≤ 100000) :
    Calls Tryz.prog 31 #[.agg (bvA K), .string s] w fun e w' => e = .returned (.int .i64 (scS K s : Nat)) ∧ Below w.heap.size w w' := by
  have HK := Lib.hid hK
  have HEX := Lib.hid (fun W => rExpand_any K hK s none 0 [] W hs (RdM.nil _ _ _) (by decide) (fun _ h => by cases h))
  obtain ⟨x, hx⟩ : ∃ x, scS K s = x := ⟨_, rfl⟩
  have HX : Hid (scalS (tagS tagScalar (expS K s [])) = x) := Lib.hid hx
  have HEL := Lib.hid (expS_len K s [])
  obtain ⟨E, hE⟩ : ∃ E, expS K s [] = E := ⟨_, rfl⟩
  rw [hE] at HEX HEL HX
  rw [hx]
  have HA1 : Hid (BB (w.alloc (.cells (bvA K) 23)) w.heap.size 23 K) := Lib.hid (BB.new w _ _)
  have HB1 : Hid (Below w.heap.size w (w.alloc (.cells (bvA K) 23))) := Lib.hid ((Below.refl _ _).alloc (Nat.le_refl _) _)
  clear hK hE hx
  go_enter Tryz.func31, Tryz.ntmps31
  go_wp2_with (first
    | (refine wpList_load_row rfl 23 (.tmp 2) rfl w.heap.size rfl _ (bvA K) (0, 0) _ HA1.out Tryz.underlying23 rfl (key_sz _ HK.out) ?_)
    | (go_at_call 62; refine (HEX.out _).mono ?_; rintro e w2 ⟨rfl, hb2⟩; refine Hid.out ?_))
  refine Lib.hid ?_
  have HB2 := Lib.hid (HB1.out.trans (hb2.mono HB1.out.size))
  clear hb2 HA1 HB1
  go_wp2_with (refine wpList_storeA rfl 23 (.tmp 5) (.tmp 8) rfl w2.heap.size (bvA E) rfl rfl 23 _ (BB.new w2 _ (List.replicate 32 0)) (key_sz _ HEL.out) (key_old _ HEL.out) (bvA_one _) ?_)
  intro w3 h3 hg3
  have HA3 : Hid (BB w3 w2.heap.size 23 E) := Lib.hid h3
  have hb3 : Below w2.heap.size w2 w3 := grown_below ((Below.refl _ _).alloc (Nat.le_refl _) _) hg3 (Nat.le_refl _) (by simp)
  have HB3 := Lib.hid (HB2.out.trans (hb3.mono HB2.out.size))
  clear h3 hg3 hb3 HB2
  have hc := hScalar ⟨#[115, 99, 97, 108, 97, 114]⟩ (some ⟨w2.heap.size, 0, none⟩) 32 E w3 (HA3.out.rdBm HEL.out) (by rw [HEL.out]; omega) (by unfold maxLen; omega) (fun h => by cases h) (by decide) (by rw [HEL.out]; omega)
  rw [HEL.out, show scalS (tagS (ByteArray.mk #[115, 99, 97, 108, 97, 114]).data.toList E) = x from HX.out] at hc
  have HC := Lib.hid hc
  clear hc HA3
  generalize w2.heap.size = g at *
  go_wp2_with (go_at_call 63; refine HC.out.mono ?_; rintro e w4 ⟨rfl, hb4⟩)
  go_ret
  exact ⟨rfl, HB3.out.trans (hb4.mono HB3.out.size)⟩

end Go.Proofs.YteigldfdaciopaaGreatDoor
