/-
  The statements of pake: side, power.
-/
import Derived.Test.YtkpecfhcdechmaaDoorJj
namespace Go.Proofs.YtkpecfhcdechmaaDoor
open Go.RowKit
set_option linter.unusedVariables false
set_option linter.unusedSimpArgs false

def sdR (r : Int) : Int := 1 + bits .and .i64 r 1
def sdC (c : Int) : Int := c % 18446744073709551616 % 1000000
def sdS (s : Int) : Nat := 1 + (s % 18446744073709551616 % 2305843009213688668).toNat
theorem and_one (c : Int) : ∃ x : Nat, bits .and .i64 c 1 = (x : Int) ∧ x ≤ 1 := by
  refine ⟨(BitVec.ofInt 64 c).toNat &&& 1, ?_, Nat.and_le_right⟩
  show IntKind.i64.wrap ((BitVec.ofInt 64 c &&& BitVec.ofInt 64 ((1 : Nat) : Int)).toNat : Int) = _
  have hle : (BitVec.ofInt 64 c).toNat &&& 1 ≤ 1 := Nat.and_le_right
  rw [BitVec.ofInt_natCast, BitVec.toNat_and, BitVec.toNat_ofNat, Nat.mod_eq_of_lt (by omega : 1 < 2 ^ 64)]
  generalize (BitVec.ofInt 64 c).toNat &&& 1 = x at *
  exact IntWalk.i64_in _ (by omega)
theorem sdR_bd (r : Int) : 1 ≤ sdR r ∧ sdR r ≤ 2 := by
  obtain ⟨x, h1, h2⟩ := and_one r
  unfold sdR
  rw [h1]
  omega
theorem sdR0 : sdR 0 = 1 := by decide
theorem sdR1 : sdR 1 = 2 := by decide
theorem sd_ok (r c s : Int) : okP (sdR r) (sdC c) (sdS s : Nat) := by
  have := sdR_bd r
  refine ⟨this, ?_, ?_⟩
  · unfold sdC; omega
  · unfold sdS; omega

set_option maxRecDepth 100000 in
theorem side_any (r c s : Int) (w : World) :
    Calls Tryd.prog 22 #[.int .i64 r, .int .i64 c, .int .i64 s] w fun e w' => e = .returned (sidV (sdR r) (sdC c) (sdS s : Nat)) ∧ Below w.heap.size w w' := by
  have hb := sdR_bd r
  have HR : Hid (1 + bits .and .i64 r 1 = sdR r) := Lib.hid rfl
  have a1 : IntKind.i64.wrap (1 + bits .and .i64 r 1) = sdR r := by
    have e : 1 + bits .and .i64 r 1 = sdR r := rfl
    rw [e]; exact IntWalk.i64_in _ (by omega)
  have hc : (IntKind.u64.wrap c).tmod 1000000 = sdC c := by rw [IntKind.wrap_u64, Int.tmod_eq_emod_of_nonneg (by omega)]; rfl
  have hs : (IntKind.u64.wrap s).tmod 2305843009213688668 = s % 18446744073709551616 % 2305843009213688668 := by rw [IntKind.wrap_u64, Int.tmod_eq_emod_of_nonneg (by omega)]
  have HS : Hid (1 + s % 18446744073709551616 % 2305843009213688668 = ((sdS s : Nat) : Int)) := Lib.hid (by unfold sdS; omega)
  have hcb : 0 ≤ sdC c ∧ sdC c ≤ 999999 := by unfold sdC; omega
  have hsb : 0 ≤ s % 18446744073709551616 % 2305843009213688668 ∧ s % 18446744073709551616 % 2305843009213688668 < 2305843009213688668 := by omega
  have w1 : wrap64 (sdC c) = sdC c := by unfold wrap64; omega
  have w2 : wrap64 (s % 18446744073709551616 % 2305843009213688668) = s % 18446744073709551616 % 2305843009213688668 := by unfold wrap64; omega
  have w3 : wrap64 (1 + s % 18446744073709551616 % 2305843009213688668) = ((sdS s : Nat) : Int) := by rw [← HS.out]; unfold wrap64; omega
  unfold sidV
  generalize s % 18446744073709551616 % 2305843009213688668 = X at *
  generalize sdC c = C at *
  generalize sdR r = R at *
  generalize sdS s = S at *
  clear hb HR hcb hsb HS
  go_enter Tryd.func22, Tryd.ntmps22
  go_wp2_with fail
  refine bodyPost_ret (v := .agg #[.int .i64 R, .int .i64 C, .int .i64 S]) ?_ rfl ⟨rfl, (Below.refl _ _).alloc (Nat.le_refl _) _⟩
  exact results_cell_row rfl _ _ w.heap.size 23 _ (0, 0) _ rfl (CB.new w _ _) Tryd.underlying23 rfl (by kernel_rfl)
end Go.Proofs.YtkpecfhcdechmaaDoor
