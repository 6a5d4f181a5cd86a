/-
  Comparing digests.
-/
import Derived.Test.YtmeoicfeiamkmaaDoorCli
import Derived.ChangeKeysEq
namespace Go.Proofs.YtmeoicfeiamkmaaDoor
open Go.RowKit

def deq (a b : List UInt8) : Bool := a == b
theorem deq_self (a : List UInt8) : deq a a = true := by unfold deq; simp
theorem bv_inj {a b : UInt8} (h : (a.toNat : Int) = (b.toNat : Int)) : a = b := by
  have : a.toNat = b.toNat := by omega
  exact UInt8.toNat_inj.1 this
theorem part_bv (l : List UInt8) (i : Nat) (h : i < l.length) (w : World) : (part 5 (bvA l) (i * 1)).run Tryd.prog w = .ok (bv l[i]) w := by
  have hi : ∃ v, (bvA l)[i]? = some v ∧ v = bv l[i] := ⟨_, bvA_get l i h, rfl⟩
  obtain ⟨i0, hi0, hz0, hz1, hz2⟩ := info_parts byteInfo
  simp [part, isAgg, run_underlying Tryd.underlying5, Nat.mul_one, bvA_get l i h, sizeOf, typeInfo, hi0, hz1]
theorem eqItems_bv (d : Nat) (a b : List UInt8) (w : World) : ∀ (is : List Nat), (∀ i ∈ is, i < a.length ∧ i < b.length) →
    (Op.eqItems (d + 1) 5 1 (bvA a) (bvA b) is).run Tryd.prog w = .ok (is.all fun i => a.getD i 0 == b.getD i 0) w
  | [], _ => by simp [Op.eqItems]
  | i :: is, h => by
    obtain ⟨h1, h2⟩ := h i (List.mem_cons_self ..)
    have ih := eqItems_bv d a b w is (fun j hj => h j (List.mem_cons_of_mem _ hj))
    simp only [Op.eqItems, Sem.run_bind, part_bv a i h1, part_bv b i h2, Result.andThen_ok]
    have e : (Op.equalIn (d + 1) 5 (bv a[i]) (bv b[i])).run Tryd.prog w = .ok ((a[i].toNat : Int) == (b[i].toNat : Int)) w := run_equalIn_int w d 5 .u8 .u8 _ _ Tryd.underlying5
    rw [e]
    simp only [Result.andThen_ok, List.all_cons]
    have e2 : (a.getD i 0 == b.getD i 0) = ((a[i].toNat : Int) == (b[i].toNat : Int)) := by
      simp only [List.getD, List.getElem?_eq_getElem h1, List.getElem?_eq_getElem h2, Option.getD_some]
      rw [Bool.eq_iff_iff, beq_iff_eq, beq_iff_eq]
      exact ⟨fun h => by rw [h], bv_inj⟩
    rw [e2]
    cases hc : ((a[i].toNat : Int) == (b[i].toNat : Int)) with
    | true => simpa using ih
    | false => simp
theorem equal_bv (a b : List UInt8) (ha : a.length = 32) (hb : b.length = 32) (w : World) : (Op.equalIn 10000 29 (.agg (bvA a)) (.agg (bvA b))).run Tryd.prog w = .ok (deq a b) w := by
  obtain ⟨i0, hi0, hz0, hz1, hz2⟩ := info_parts byteInfo
  have h := run_equalIn_array (P := Tryd.prog) w 9999 (bvA a) (bvA b) Tryd.underlying29 hi0
  have hc : Tryd.prog.cellsOf 5 = 1 := by kernel_rfl
  rw [hc, eqItems_bv 9998 a b w _ (fun i hi => by rw [List.mem_range] at hi; omega)] at h
  refine h.trans ?_
  congr 1
  unfold deq
  rw [Bool.eq_iff_iff, List.all_eq_true, beq_iff_eq]
  constructor
  · intro hall
    apply List.ext_getElem (by omega)
    intro i h1 h2
    have := hall i (by rw [List.mem_range]; omega)
    simpa [List.getD, h1, h2] using this
  · rintro rfl i hi
    simp
/-- Two digests that are equal. -/
theorem equal_same (a : List UInt8) (ha : a.length = 32) (w : World) : (Op.equalIn 10000 29 (.agg (bvA a)) (.agg (bvA a))).run Tryd.prog w = .ok true w := by
  rw [equal_bv a a ha ha, deq_self]
end Go.Proofs.YtmeoicfeiamkmaaDoor
