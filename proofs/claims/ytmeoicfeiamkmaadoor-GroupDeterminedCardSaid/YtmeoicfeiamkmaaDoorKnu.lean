/-
  The reference's numbers.
-/
import Derived.Test.YtmeoicfeiamkmaaDoorTagsW
import Derived.Great.BuildSlice
namespace Go.Proofs.YtmeoicfeiamkmaaDoor
open Go.RowKit
set_option linter.unusedVariables false
set_option linter.unusedSimpArgs false

set_option maxRecDepth 100000 in
set_option maxHeartbeats 1600000 in
theorem refNumbers (w : World) : Calls Tryd.prog 46 #[] w fun e w' => e = .returned (.agg (wv kNums)) ∧ Below w.heap.size w w' := by
  obtain ⟨Z, hZ⟩ : ∃ Z, Z = wv kNums := ⟨_, rfl⟩
  have hsz : (Tryd.prog.info? 75).map (·.size) = some Z.size := by rw [hZ]; kernel_rfl
  have HSZ := Lib.hid hsz
  have HONE : Hid (Z.all (·.oneCell') = true) := by show _ = _; rw [hZ]; exact wv_one _
  have HZ := Lib.hid hZ
  rw [← hZ]
  clear hZ hsz
  go_enter Tryd.func46, Tryd.ntmps46
  go_wp2_with (first | ((with_reducible show wpList _ _ _ (({ dst := some 1, op := _, type := _, pos := _, after := _, guard := _ } : Oper) :: _) _ _); go_must (refine wpList_built rfl 75 _ rfl _ rfl Z (by rw [HZ.out]; kernel_rfl) ?_)) | (refine wpList_storeA rfl 75 (.tmp 0) (.tmp 1) rfl w.heap.size Z rfl rfl 75 _ (heap_alloc_new w _) HSZ.out (by rw [HZ.out]; rfl) HONE.out ?_))
  intro w4 h4 hg4
  go_wp2_with fail
  have hB := grown_below ((Below.refl w.heap.size w).alloc (Nat.le_refl _) _) hg4 (Nat.le_refl _) (by simp)
  refine bodyPost_ret (v := .agg Z) ?_ rfl ⟨rfl, hB⟩
  exact results_cell_row rfl _ _ w.heap.size 75 _ (0, 0) _ rfl h4 Tryd.underlying75 rfl HSZ.out
end Go.Proofs.YtmeoicfeiamkmaaDoor
