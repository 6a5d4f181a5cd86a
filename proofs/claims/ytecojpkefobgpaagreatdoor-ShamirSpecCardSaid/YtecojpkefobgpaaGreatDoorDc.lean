/-
  Package derive: key, the array of what was collected.
-/
import Derived.Test.YtecojpkefobgpaaGreatDoorDb
namespace Go.Proofs.YtecojpkefobgpaaGreatDoor
open Go.RowKit
set_option linter.unusedVariables false
set_option linter.unusedSimpArgs false

theorem below_dNk {B : Nat} {w w' : World} (h : Below B w w') (n : Nat) : Below B w (w'.drewN n) := h.trans ⟨rfl, rfl, rfl, Nat.le_refl _, fun _ _ => rfl⟩
theorem key_und : Tryz.prog.underlying 24 = some (.array 32 5) := Tryz.underlying24
theorem key_sz (m : List UInt8) (h : m.length = 32) : (Tryz.prog.info? 24).map (·.size) = some (bvA m).size := by rw [bvA_size, h]; kernel_rfl
theorem key_old (m : List UInt8) (h : m.length = 32) : (bvA (List.replicate 32 0)).size = (bvA m).size := by rw [bvA_size, bvA_size, h, List.length_replicate]

set_option maxRecDepth 100000 in
set_option maxHeartbeats 1600000 in
theorem key_any {B : Nat} {b : Nat} {tag : ByteArray} {m : List UInt8} {w : World} (h : Src B w b tag m) (hT : Tab w) (hs : tag.size ≤ 600) (hm : m.length ≤ 1000000) :
    Calls Tryz.prog 49 #[.pointer (some ⟨b, 0, none⟩)] w fun e w' => e = .returned (.agg (bvA (tagS tag.data.toList m))) ∧ Below w.heap.size w w' := by
  have HT := Lib.hid hT
  have hlt := h.lt
  obtain ⟨w1, hw1⟩ : ∃ w1, w1 = w.alloc (.cells (bvA (List.replicate 32 0)) 24) := ⟨_, rfl⟩
  have hB1 : Below w.heap.size w w1 := hw1 ▸ (Below.refl _ _).alloc (Nat.le_refl _) _
  have hD1 : BB w1 w.heap.size 24 (List.replicate 32 0) := hw1 ▸ BB.new w _ _
  have h1 := h.call hB1
  have ct := h1.tag
  obtain ⟨a, cap, ho, hby⟩ := src_bytes h1
  have HO := Lib.hid ho
  have HBY := Lib.hid hby
  have HB1 := Lib.hid hB1
  have HD1 := Lib.hid hD1
  have HL := Lib.hid (tagS_len tag.data.toList m)
  clear ho hby hB1 hD1 h1 hT
  go_enter Tryz.func49, Tryz.ntmps49
  go_wp2_with fail
  change Code.wp _ _ _ _ (w.alloc (.cells (bvA (List.replicate 32 0)) 24))
  rw [← hw1]
  clear hw1
  refine wp_region_quiet_tail 8 (by kernel_rfl) (by kernel_rfl) ?_
  simp only [List.take_succ_cons, List.take_zero, List.drop_succ_cons, List.drop_zero]
  iterate 7 (go_big_quiet_step (fail))
  go_big_quiet_step ((go_at_call 67; exact Calls.quiet_of (HBY.out _ ⟨_, rfl⟩)))
  refine wpQuiet_nil ?_
  intro _ hw'
  obtain ⟨nq, hw''⟩ := hw'
  subst hw''
  have HB2 := Lib.hid (below_dNk HB1.out nq)
  have HD2 : Hid (BB (w1.drewN nq) w.heap.size 24 (List.replicate 32 0)) := Lib.hid HD1.out
  have HR2 : Hid (RdB (w1.drewN nq).heap.size (w1.drewN nq) a m) := Lib.hid HO.out.rd
  clear HB1 HD1 HBY ct hlt
  generalize w1.drewN nq = w2 at *
  go_wp2_with fail
  refine (Tagged_any tag a cap m w2 (HT.out.below HB2.out HT.out.lt) HR2.out HO.out.caps.1 HO.out.caps.2 (by omega) (by omega)).mono ?_
  rintro e w3 ⟨rfl, hb3⟩
  have HD3 := Lib.hid (HD2.out.below hb3 HD2.out.lt)
  have HB3 := Lib.hid (HB2.out.trans (hb3.mono HB2.out.size))
  generalize hX : tagS tag.data.toList m = X at *
  have HX := Lib.hid hX
  clear hX hb3 HD2 HB2 HR2 HO
  go_wp2_with (refine wpList_storeA rfl 24 (.tmp 2) (.tmp 11) rfl w.heap.size (bvA X) rfl rfl 24 _ HD3.out (key_sz _ HL.out) (key_old _ HL.out) (bvA_one _) ?_)
  intro w9 h9 hg9
  have hB9 := grown_below HB3.out hg9 (Nat.le_refl _) HB3.out.size
  go_wp2_with fail
  refine bodyPost_ret (v := .agg (bvA X)) ?_ rfl ⟨by rw [HX.out], hB9⟩
  exact results_cell_row rfl _ _ w.heap.size 24 _ (0, 0) _ rfl h9 key_und rfl (key_sz _ HL.out)
end Go.Proofs.YtecojpkefobgpaaGreatDoor
