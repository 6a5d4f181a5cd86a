/-
  Package sign: the bytes of a number, the scalar of numbers and a message; the statements' and the reference's bytes of a number.
-/
import Derived.Test.YtgpcbckpfnhhcaaDoorPkH
import Derived.Test.YtgpcbckpfnhhcaaDoorSs
import Derived.Test.YtgpcbckpfnhhcaaDoorPkR
namespace Go.Proofs.YtgpcbckpfnhhcaaDoor
open Go.RowKit
set_option linter.unusedVariables false
set_option linter.unusedSimpArgs false

theorem bv_byN (n : Int) (k : Nat) : Value.int .u8 (n / 2 ^ (56 - 8 * k) % 256) = bv (byN n k) := by unfold bv; rw [byN_nat]
theorem arr8_size : (Tryd.prog.info? 57).map (·.size) = some 8 := by kernel_rfl
theorem be8A_size (n : Int) : (bvA (be8 n)).size = 8 := by rw [bvA_size, be8_len]
theorem be8A_sz (n : Int) : (Tryd.prog.info? 57).map (·.size) = some (bvA (be8 n)).size := by rw [be8A_size]; exact arr8_size

set_option maxRecDepth 100000 in
set_option maxHeartbeats 2000000 in
theorem bytesOf_any (n : Int) (w : World) :
    Calls Tryd.prog 63 #[.int .i64 n] w fun e w' => e = .returned (.agg (bvA (be8 n))) ∧ Below w.heap.size w w' := by
  obtain ⟨Z, hZ⟩ : ∃ Z, Z = bvA (List.replicate 8 0) := ⟨_, rfl⟩
  have hz := fun W : World => (by rw [hZ]; kernel_rfl : (zeroValue 57).run Tryd.prog W = .ok (.agg Z) W)
  have hB0 : Below w.heap.size w (w.alloc (.cells Z 57)) := (Below.refl _ _).alloc (Nat.le_refl _) _
  have hO0 : BB (w.alloc (.cells Z 57)) w.heap.size 57 (be8To n 0) := by rw [hZ, be8To_zero]; exact BB.new w _ _
  have HB0 := Lib.hid hB0
  have HO0 := Lib.hid hO0
  clear hZ hB0 hO0
  go_enter Tryd.func63, Tryd.ntmps63
  go_wp2_with fail
  go_loopw [4] (fun i wr => ∃ k : Nat, k ≤ 8 ∧ i = .int .i64 k ∧ BB wr w.heap.size 57 (be8To n k) ∧ Below w.heap.size w wr) (fun i _ => 8 - (intOf i).toNat)
  case atStart => exact ⟨0, by omega, rfl, HO0.out, HB0.out⟩
  case round =>
    clear HB0 HO0
    obtain ⟨k, hk, rfl, ho, hb⟩ := hrel
    have HO := Lib.hid ho
    have HB := Lib.hid hb
    clear ho hb
    by_cases hlt : k < 8
    · have cf := HO.out.frozen k
      have ck := HO.out.cell k (by rw [be8To_len]; omega)
      have HX := Lib.hid (be8To_set n k)
      have HV := Lib.hid (bv_byN n k)
      generalize hx : (be8To n k)[k]'(by rw [be8To_len]; omega) = xk at ck
      clear hx
      go_wp2_with fail
      go_roundw
      case rel =>
        refine ⟨k + 1, by omega, by go_num, ?_, HB.out.setCell (Nat.le_refl _) _⟩
        rw [← HX.out]
        have h := HO.out.set_ k (byN n k)
        rw [← HV.out] at h
        exact h
      case measure => simp [intOf]; omega
    · obtain rfl : k = 8 := by omega
      rw [be8To_all] at HO
      have hsz := be8A_sz n
      go_wp2_with (first | (refine wpList_load_row rfl 57 (.tmp 2) rfl w.heap.size rfl _ (bvA (be8 n)) (0, 0) _ HO.out Tryd.underlying57 rfl hsz ?_) | (refine wpList_storeA rfl 57 (.tmp 2) (.tmp 16) rfl w.heap.size (bvA (be8 n)) rfl rfl _ _ HO.out hsz rfl (bvA_one _) ?_))
      intro w4 h4 hg4
      go_wp2_with fail
      refine bodyPost_ret (v := .agg (bvA (be8 n))) ?_ rfl ⟨rfl, grown_below HB.out hg4 (Nat.le_refl _) HB.out.size⟩
      exact results_cell_row rfl _ _ w.heap.size 57 _ (0, 0) _ rfl h4 Tryd.underlying57 rfl hsz
end Go.Proofs.YtgpcbckpfnhhcaaDoor
