/-
  The statements' and the reference's bytes of a number.
-/
import Derived.Test.YtgpcbckpfnhhcaaDoorSb
import Derived.Test.YtgpcbckpfnhhcaaDoorPkC
namespace Go.Proofs.YtgpcbckpfnhhcaaDoor
open Go.RowKit
set_option linter.unusedVariables false
set_option linter.unusedSimpArgs false

set_option maxRecDepth 100000 in
set_option maxHeartbeats 1600000 in
theorem number_any (n : Int) (w : World) :
    Calls Tryd.prog 29 #[.int .i64 n] w fun e w' => ∃ v, e = .returned v ∧ OwnB w.heap.size w' v (be8 n) ∧ Below w.heap.size w w' := by
  have HO0 : Hid (OwnB w.heap.size w (.slice none 0 0) ((be8 n).take 0)) := OwnB.nil _ _
  have HB0 := Lib.hid (Below.refl w.heap.size w)
  go_enter Tryd.func29, Tryd.ntmps29
  go_wp2_with fail
  go_loopw [2, 4] (fun v i wr => ∃ k : Nat, k ≤ 8 ∧ i = .int .i64 k ∧ OwnB w.heap.size wr v ((be8 n).take k) ∧ Below w.heap.size w wr) (fun _ i _ => 8 - (intOf i).toNat)
  case atStart => exact ⟨0, by omega, rfl, HO0.out, HB0.out⟩
  case round =>
    clear HO0 HB0
    obtain ⟨k, hk, rfl, ho, hb⟩ := hrel
    have HO := Lib.hid ho
    have HB := Lib.hid hb
    obtain ⟨av, cv, rfl, _, _⟩ := ho.form
    clear ho hb
    by_cases hlt : k < 8
    · have HX := Lib.hid (be8_take n k hlt)
      have HV := Lib.hid (bv_byN n k)
      have HU := Lib.hid (byN_u n k hlt)
      have hl : ((be8 n).take k).length + 1 ≤ 140737488355328 := by rw [List.length_take, be8_len]; omega
      have hi0 : (0 : Int) ≤ 56 - 8 * (k : Int) := by omega
      have HL := Lib.hid hl
      clear hl
      obtain ⟨tk, htk⟩ : ∃ tk, tk = (be8 n).take k := ⟨_, rfl⟩
      rw [← htk] at HX HL HO ⊢
      clear htk
      go_wp2_with ((with_reducible show wpList _ _ _ (({ dst := some 16, op := _, type := _, pos := _, after := _, guard := _ } : Oper) :: _) _ _); go_must (refine wpList_app1 rfl (.tmp 7) (.tmp 15) rfl w.heap.size _ tk (byN n k) wr.heap.size rfl (HO.out.alloc _) rfl ?hc HL.out ?hs ?_))
      case hc => rw [cell_of_row _ _ _ _ _ _ (heap_alloc_new wr _), IntKind.wrap_u64, HU.out, HV.out]; rfl
      case hs => have := HB.out.size; simp; omega
      intro v3 w3 ho3 hg3
      have HB3 := Lib.hid ((HB.out.alloc HB.out.size _).trans (hg3.below (fun k hk => HO.out.base k hk) (HB.out.alloc HB.out.size _).size))
      rw [← HX.out] at ho3
      have HO3 := Lib.hid ho3
      obtain ⟨a3, c3, rfl, _, _⟩ := ho3.form
      clear ho3 hg3
      go_wp2_with fail
      go_roundw
      case rel => exact ⟨k + 1, by omega, by go_num, HO3.out, HB3.out⟩
      case measure => simp [intOf]; omega
    · obtain rfl : k = 8 := by omega
      rw [show (be8 n).take 8 = be8 n from by rw [List.take_of_length_le (by rw [be8_len]; omega)]] at HO
      go_wp2_with fail
      go_ret
      exact ⟨_, rfl, HO.out, HB.out⟩

set_option maxRecDepth 100000 in
set_option maxHeartbeats 1600000 in
theorem refBytes (n : Int) (w : World) :
    Calls Tryd.prog 36 #[.int .i64 n] w fun e w' => ∃ v, e = .returned v ∧ OwnB w.heap.size w' v (be8 n) ∧ Below w.heap.size w w' := by
  have hA0 : Below w.heap.size w (w.alloc (.cells #[] 5)) := (Below.refl _ _).alloc (Nat.le_refl _) _
  have HO0 : Hid (OwnB w.heap.size (w.alloc (.cells #[] 5)) (.slice (some ⟨w.heap.size, 0, none⟩) 0 0) ((be8 n).take 0)) := OwnB.empty (Nat.le_refl _)
  have HB0 := Lib.hid hA0
  clear hA0
  go_enter Tryd.func36, Tryd.ntmps36
  go_wp2_with fail
  go_loopw [3, 4] (fun v i wr => ∃ k : Nat, k ≤ 8 ∧ i = .int .i64 (7 - (k : Int)) ∧ OwnB w.heap.size wr v ((be8 n).take k) ∧ Below w.heap.size w wr) (fun _ i _ => (intOf i + 1).toNat)
  case atStart => exact ⟨0, by omega, rfl, HO0.out, HB0.out⟩
  case round =>
    clear HO0 HB0
    obtain ⟨k, hk, rfl, ho, hb⟩ := hrel
    have HO := Lib.hid ho
    have HB := Lib.hid hb
    obtain ⟨av, cv, rfl, _, _⟩ := ho.form
    clear ho hb
    by_cases hlt : k < 8
    · have HX := Lib.hid (be8_take n k hlt)
      have HV := Lib.hid (bv_byN n k)
      have HU := Lib.hid (byN_u n k hlt)
      have hl : ((be8 n).take k).length + 1 ≤ 140737488355328 := by rw [List.length_take, be8_len]; omega
      have hi0 : (0 : Int) ≤ 7 - (k : Int) := by omega
      have HL := Lib.hid hl
      clear hl
      obtain ⟨tk, htk⟩ : ∃ tk, tk = (be8 n).take k := ⟨_, rfl⟩
      rw [← htk] at HX HL HO ⊢
      clear htk
      go_wp2_with ((with_reducible show wpList _ _ _ (({ dst := some 18, op := _, type := _, pos := _, after := _, guard := _ } : Oper) :: _) _ _); go_must (refine wpList_app1 rfl (.tmp 10) (.tmp 17) rfl w.heap.size _ tk (byN n k) wr.heap.size rfl (HO.out.alloc _) rfl ?hc HL.out ?hs ?_))
      case hc => rw [cell_of_row _ _ _ _ _ _ (heap_alloc_new wr _), IntKind.wrap_u64, show 8 * (7 - k) = 56 - 8 * k by omega, HU.out, HV.out]; rfl
      case hs => have := HB.out.size; simp; omega
      intro v3 w3 ho3 hg3
      have HB3 := Lib.hid ((HB.out.alloc HB.out.size _).trans (hg3.below (fun k hk => HO.out.base k hk) (HB.out.alloc HB.out.size _).size))
      rw [← HX.out] at ho3
      have HO3 := Lib.hid ho3
      obtain ⟨a3, c3, rfl, _, _⟩ := ho3.form
      clear ho3 hg3
      go_wp2_with fail
      go_roundw
      case rel => exact ⟨k + 1, by omega, by go_num, HO3.out, HB3.out⟩
      case measure => simp [intOf]; omega
    · obtain rfl : k = 8 := by omega
      rw [show (be8 n).take 8 = be8 n from by rw [List.take_of_length_le (by rw [be8_len]; omega)]] at HO
      go_wp2_with fail
      go_ret
      exact ⟨_, rfl, HO.out, HB.out⟩
end Go.Proofs.YtgpcbckpfnhhcaaDoor
