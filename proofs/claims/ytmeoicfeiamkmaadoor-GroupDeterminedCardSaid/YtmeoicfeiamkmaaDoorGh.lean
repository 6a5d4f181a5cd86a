/-
  The reference's remainder of a digest's number, its scalars and points.
-/
import Derived.Test.YtmeoicfeiamkmaaDoorGd
import Derived.Test.YtmeoicfeiamkmaaDoorRtg
namespace Go.Proofs.YtmeoicfeiamkmaaDoor
open Go.RowKit
set_option linter.unusedVariables false
set_option linter.unusedSimpArgs false

theorem rest_step (m n b : Nat) : (256 * n % m + b) % m = (256 * n + b) % m := by rw [Nat.add_mod, Nat.mod_mod, ← Nat.add_mod]

set_option maxRecDepth 100000 in
set_option maxHeartbeats 2000000 in
theorem rest_any (m : Nat) (hm : okM m) (x : List UInt8) (hx : x.length = 32) (w : World) :
    Calls Tryd.prog 17 #[.agg (bvA x), .int .i64 m] w fun e w' => e = .returned (.int .i64 (restD m x : Nat)) ∧ Below w.heap.size w w' := by
  have hl := hm.lt
  have hB : Below w.heap.size w (w.alloc (.cells (bvA x) 29)) := (Below.refl _ _).alloc (Nat.le_refl _) _
  have hrow : (w.alloc (.cells (bvA x) 29)).heap[w.heap.size]? = some (.cells (bvA x) 29 (0, 0)) := World.alloc_heap_new w _
  have hmp : 0 < m := by omega
  go_enter Tryd.func17, Tryd.ntmps17
  go_wp2_with fail
  go_loopw [5, 6] (fun y i wr => ∃ k : Nat, y = .int .i64 (restD m (x.take k) : Nat) ∧ i = .int .i64 k ∧ k ≤ 32 ∧ ∃ n, wr = (w.alloc (.cells (bvA x) 29)).drewN n) (fun _ i _ => 32 - (intOf i).toNat)
  case atStart => exact ⟨0, rfl, rfl, by omega, 0, rfl⟩
  case round =>
    obtain ⟨k, rfl, rfl, hk, hwr⟩ := hrel
    have HK := Lib.hid hwr
    clear hwr
    have hlt1 := restD_lt hmp (x.take k)
    by_cases hlt : k < 32
    · have f1 : decide ((k : Int) < 32) = true := decide_eq_true (by omega)
      have f2 : decide (k < 32) = true := decide_eq_true hlt
      have HS := restD_take (m := m) (x := x) (k := k) (by omega)
      have hkx : k < x.length := by omega
      have hc : (w.alloc (.cells (bvA x) 29)).cell? ⟨w.heap.size, k, none⟩ = some (.int .u8 ((x.getD k 0).toNat : Int)) := by
        rw [cell_of_row _ _ _ _ _ _ hrow]; simp [bvA, hkx, bv]
      rw [← rest_step] at HS
      have HP : Hid (∀ w', Calls Tryd.prog 20 #[.int .i64 256, .int .i64 (restD m (x.take k) : Nat), .int .i64 m] w' fun e w'' => e = .returned (.int .i64 ((256 * restD m (x.take k) % m : Nat) : Int)) ∧ w'' = w') := Lib.hid (fun w' => grprod_any m 256 (restD m (x.take k)) (by omega) (by omega) (by omega) w')
      have hc' : wr.cell? ⟨w.heap.size, k, none⟩ = some (.int .u8 ((x.getD k 0).toNat : Int)) := by obtain ⟨n, rfl⟩ := HK.out; exact hc
      have hpl : 256 * restD m (x.take k) % m < m := Nat.mod_lt _ hmp
      have hcb : (x.getD k 0).toNat < 256 := UInt8.toNat_lt _
      generalize (x.getD k 0).toNat = c at *
      generalize 256 * restD m (x.take k) % m = p at *
      obtain ⟨r2, hr2⟩ : ∃ r2, restD m (x.take (k + 1)) = r2 := ⟨_, rfl⟩
      have HR2 := Lib.hid hr2
      rw [hr2] at HS
      clear hr2
      generalize restD m (x.take k) = r at *
      have c1 := wrapI (c : Int) (by omega) (by omega)
      have c2 := wrapI ((p : Int) + c) (by omega) (by omega)
      have c3 : ((p : Int) + c).tmod m = ((r2 : Nat) : Int) := by
        rw [Int.tmod_eq_emod_of_nonneg (by omega), HS, Int.natCast_emod, Int.natCast_add]
      have c4 := wrapI (r2 : Int) (by have : r2 < m := by rw [HS]; exact Nat.mod_lt _ hmp
                                      omega) (by have : r2 < m := by rw [HS]; exact Nat.mod_lt _ hmp
                                                 omega)
      have c5 : ((m : Int) == 0) = false := by simp; omega
      clear HS
      go_wp2_with fail
      go_quiet (first
        | (go_at_call 20; exact Calls.quiet_of_same (HP.out _)))
      go_wp2_with fail
      go_roundw
      case rel => exact ⟨k + 1, by rw [HR2.out], by go_num, hlt, by obtain ⟨n, rfl⟩ := HK.out; exact ⟨n + nq, by rw [World.drewN_drewN]⟩⟩
      case measure => simp [intOf]; omega
    · obtain rfl : k = 32 := by omega
      have e : x.take 32 = x := by rw [← hx]; exact List.take_length
      rw [e]
      have f1 : decide (((32 : Nat) : Int) < 32) = false := by decide
      obtain ⟨r, hr⟩ : ∃ r, restD m x = r := ⟨_, rfl⟩
      rw [hr]
      have HR2 := Lib.hid hr
      clear hr
      go_wp2_with fail
      go_ret
      exact ⟨by rw [HR2.out]; rfl, by obtain ⟨n, rfl⟩ := HK.out; exact below_drewN hB n⟩
end Go.Proofs.YtmeoicfeiamkmaaDoor
