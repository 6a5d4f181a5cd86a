/-
  Contracts of wellFormed and Formed.
  Contracts of the small functions on numbers of package codec and of its reference: unsigned, signed, numeralSize.
  Contracts of depth and Depth.
  Contract of size.
  Contracts of numeral and encode (the reference), of appendNumeral, writers, writeInt, writeText, writeList, write and Encode (codec).
  Contract of encode (the reference).
  Contracts of writers, writeInt, writeText, writeList, write (codec).
  Contracts of Check, Size and Encode (both), and of Int, Text, List.
  Contracts of the reference's Encode and Size, of Int, Text, List, count, Few and few.
-/
import Derived.Test.YteigldfdaciopaaGreatDoorPkA
import Derived.Test.YteigldfdaciopaaGreatDoorShelf
import Derived.Lib.Zigzag
import Derived.Lib.ItoaNum
import Derived.Deep.QuietTactic
import Derived.BigQuiet
import Derived.Deep.RegionHeld3
import Derived.Laws.EntriesVeiled
import Derived.Laws.MakeOwn
set_option linter.unusedVariables false
set_option linter.unusedSimpArgs false
namespace Go.Proofs.YteigldfdaciopaaGreatDoor
open Go.RowKit

set_option maxHeartbeats 400000 in
theorem wf_any (m : Nat) : ∀ (B : Nat) (k n : Int) (s : ByteArray) (a : Option Addr) (cap : Nat) (kids : VL) (w : World), kids.sz ≤ m → I64 k → I64 n → s.size ≤ maxLen → RepS B w a cap kids → B ≤ w.heap.size →
    Calls Tryz.prog 135 #[.agg #[.int .i64 k, .int .i64 n, .string s, .slice a kids.len cap]] w fun e w' => e = .returned (.bool (vwf k n s kids)) ∧ Below w.heap.size w w' := by
  induction m with
  | zero => intro B k n s a cap kids w hm; have := kids.sz_pos; omega
  | succ m ih =>
  intro B k n s a cap kids w hm hk hn hs hr hB
  obtain ⟨hn0, hn1⟩ := hn
  by_cases h1 : k = 1
  · subst h1
    go_enter Tryz.func135, Tryz.ntmps135
    go_wp2
    all_goals
      go_ret
      refine ⟨?_, (Below.refl _ _).alloc (Nat.le_refl _) _⟩
      simp [vwf, VL.isNil_len, *]
  by_cases h2 : k = 2
  · subst h2
    go_enter Tryz.func135, Tryz.ntmps135
    go_wp2
    all_goals
      go_ret
      refine ⟨?_, (Below.refl _ _).alloc (Nat.le_refl _) _⟩
      simp [vwf, VL.isNil_len, *]
  by_cases h3 : k = 3
  · subst h3
    have hl := hr.1
    obtain ⟨b, o, hf, HA⟩ := hr.at
    have HR := Lib.hid hr
    clear hr
    unfold maxLen at hl
    go_enter Tryz.func135, Tryz.ntmps135
    go_wp2
    go_loopw [34] (fun i wr => ∃ (j : Nat) (r : VL), i = .int .i64 j ∧ j + r.len = kids.len ∧ r.sz ≤ m + 1 ∧ RepL B wr b (o + j * 4) r ∧ kids.wf = r.wf ∧ Below (w.heap.size + 1) (w.alloc (.cells #[.int .i64 3, .int .i64 n, .string s, .slice a kids.len cap] 100)) wr) (fun i _ => kids.len - (intOf i).toNat)
    case atStart => exact ⟨0, kids, rfl, by omega, hm, by simpa using hf.below ((Below.refl _ _).alloc hB _) _ _ _, rfl, Below.refl _ _⟩
    case round =>
      obtain ⟨j, r, rfl, hj, hm', hr, hw, hb⟩ := hrel
      have HW := Lib.hid hw; clear hw
      cases r with
      | nil =>
        have : j = kids.len := by simpa [VL.len] using hj
        have c1 : wr.cell? ⟨w.heap.size, 1, none⟩ = some (.int .i64 n) := by rw [hb.cell (by simp)]; simp
        have c2 : wr.cell? ⟨w.heap.size, 2, none⟩ = some (.string s) := by rw [hb.cell (by simp)]; simp
        go_wp2
        all_goals
          go_ret
          refine ⟨?_, below_start hb⟩
          have := HW.out
          simp [vwf, VL.wf, this, *]
      | cons k' n' s' kids' r' =>
        simp only [VL.len] at hj
        have hlt : j < kids.len := by omega
        have ha : a = some ⟨b, o, none⟩ := by
          rcases HA.out with h | h
          · rw [h] at hlt; simp [VL.len] at hlt
          · exact h
        subst ha
        obtain ⟨q0, q1, q2, q3, q4, q5, q6, ⟨a', cap', q7, q8⟩, q9⟩ := hr
        simp only [VL.sz] at hm'
        have := kids'.sz_pos
        have := r'.sz_pos
        have hBw : w.heap.size + 1 ≤ wr.heap.size := by simpa using hb.size
        have hBr : B ≤ wr.heap.size := by omega
        have HS : RepS B wr a' cap' kids' := q8
        have HM : Hid (RepL B wr b (o + j * 4 + 4) r') := q9
        clear q8 q9
        go_wp2_with (go_at_call 135; refine (ih B k' n' s' a' cap' kids' _ (by omega) q1 q2 q3 (HS.below ((Below.refl _ _).alloc hBr _)) (by simp; omega)).mono ?_; rintro e w1 ⟨rfl, hb1⟩)
        · have HV := Lib.hid ‹(!vwf k' n' s' kids') = true›
          go_ret
          refine ⟨?_, below_start (below_alloc_call hb hBw hb1)⟩
          have h1 := HW.out
          have h2 := HV.out
          simp only [Bool.not_eq_true'] at h2
          rw [vwf3, h1, VL.wf_cons, h2]; rfl
        · have HV := Lib.hid ‹(!vwf k' n' s' kids') = false›
          have h5 : Below B wr w1 := ((Below.refl _ _).alloc hBr _).trans (hb1.mono (by simp; omega))
          go_roundw
          case rel =>
            refine ⟨j + 1, r', by go_num, by omega, by omega, ?_, ?_, ?_⟩
            · have := HM.out.below h5
              rw [show o + (j + 1) * 4 = o + j * 4 + 4 from by omega]; exact this
            · have h1 := HW.out
              have h2 := HV.out
              simp only [Bool.not_eq_false'] at h2
              simp [VL.wf_cons, h1, h2]
            · exact below_alloc_call hb hBw hb1
          case measure => simp [intOf]; omega
  have HK : Hid (vwf k n s kids = false) := by show vwf k n s kids = false; simp [vwf, h1, h2, h3]
  go_enter Tryz.func135, Tryz.ntmps135
  go_wp2
  go_ret
  exact ⟨by rw [HK.out]; rfl, (Below.refl _ _).alloc (Nat.le_refl _) _⟩
set_option maxHeartbeats 400000 in
theorem formed_any (m : Nat) : ∀ (B : Nat) (k n : Int) (s : ByteArray) (a : Option Addr) (cap : Nat) (kids : VL) (w : World), kids.sz ≤ m → I64 k → I64 n → s.size ≤ maxLen → RepS B w a cap kids → B ≤ w.heap.size →
    Calls Tryz.prog 130 #[.agg #[.int .i64 k, .int .i64 n, .string s, .slice a kids.len cap]] w fun e w' => e = .returned (.bool (vwf k n s kids)) ∧ Below w.heap.size w w' := by
  induction m with
  | zero => intro B k n s a cap kids w hm; have := kids.sz_pos; omega
  | succ m ih =>
  intro B k n s a cap kids w hm hk hn hs hr hB
  obtain ⟨hn0, hn1⟩ := hn
  by_cases h1 : k = 1
  · subst h1
    go_enter Tryz.func130, Tryz.ntmps130
    go_wp2
    all_goals
      go_ret
      refine ⟨?_, (Below.refl _ _).alloc (Nat.le_refl _) _⟩
      simp [vwf, VL.isNil_len, *]
  by_cases h2 : k = 2
  · subst h2
    go_enter Tryz.func130, Tryz.ntmps130
    go_wp2
    all_goals
      go_ret
      refine ⟨?_, (Below.refl _ _).alloc (Nat.le_refl _) _⟩
      simp [vwf, VL.isNil_len, *]
  by_cases h3 : k = 3
  · subst h3
    have hl := hr.1
    obtain ⟨b, o, hf, HA⟩ := hr.at
    have HR := Lib.hid hr
    clear hr
    unfold maxLen at hl
    go_enter Tryz.func130, Tryz.ntmps130
    go_wp2
    go_loopw [3] (fun i wr => ∃ (j : Nat) (r : VL), i = .int .i64 j ∧ j + r.len = kids.len ∧ r.sz ≤ m + 1 ∧ RepL B wr b (o + j * 4) r ∧ kids.wf = r.wf ∧ Below (w.heap.size + 1) (w.alloc (.cells #[.int .i64 3, .int .i64 n, .string s, .slice a kids.len cap] 100)) wr) (fun i _ => kids.len - (intOf i).toNat)
    case atStart => exact ⟨0, kids, rfl, by omega, hm, by simpa using hf.below ((Below.refl _ _).alloc hB _) _ _ _, rfl, Below.refl _ _⟩
    case round =>
      obtain ⟨j, r, rfl, hj, hm', hr, hw, hb⟩ := hrel
      have HW := Lib.hid hw; clear hw
      cases r with
      | nil =>
        have : j = kids.len := by simpa [VL.len] using hj
        have c3 : wr.cell? ⟨w.heap.size, 3, none⟩ = some (.slice a kids.len cap) := by rw [hb.cell (by simp)]; simp
        have c1 : wr.cell? ⟨w.heap.size, 1, none⟩ = some (.int .i64 n) := by rw [hb.cell (by simp)]; simp
        have c2 : wr.cell? ⟨w.heap.size, 2, none⟩ = some (.string s) := by rw [hb.cell (by simp)]; simp
        go_wp2
        all_goals
          go_ret
          refine ⟨?_, below_start hb⟩
          have := HW.out
          simp [vwf, VL.wf, this, *]
      | cons k' n' s' kids' r' =>
        simp only [VL.len] at hj
        have hlt : j < kids.len := by omega
        have ha : a = some ⟨b, o, none⟩ := by
          rcases HA.out with h | h
          · rw [h] at hlt; simp [VL.len] at hlt
          · exact h
        subst ha
        obtain ⟨q0, q1, q2, q3, q4, q5, q6, ⟨a', cap', q7, q8⟩, q9⟩ := hr
        simp only [VL.sz] at hm'
        have := kids'.sz_pos
        have := r'.sz_pos
        have hBw : w.heap.size + 1 ≤ wr.heap.size := by simpa using hb.size
        have hBr : B ≤ wr.heap.size := by omega
        have HS : RepS B wr a' cap' kids' := q8
        have HM : Hid (RepL B wr b (o + j * 4 + 4) r') := q9
        clear q8 q9
        have c3 : wr.cell? ⟨w.heap.size, 3, none⟩ = some (.slice (some ⟨b, o, none⟩) kids.len cap) := by rw [hb.cell (by simp)]; simp
        go_wp2_with (go_at_call 130; refine (ih B k' n' s' a' cap' kids' _ (by omega) q1 q2 q3 HS hBr).mono ?_; rintro e w1 ⟨rfl, hb1⟩)
        · have HV := Lib.hid ‹(!vwf k' n' s' kids') = true›
          go_ret
          refine ⟨?_, below_start (below_call hb hBw hb1)⟩
          have h1 := HW.out
          have h2 := HV.out
          simp only [Bool.not_eq_true'] at h2
          rw [vwf3, h1, VL.wf_cons, h2]; rfl
        · have HV := Lib.hid ‹(!vwf k' n' s' kids') = false›
          have h5 : Below B wr w1 := hb1.mono hBr
          go_roundw
          case rel =>
            refine ⟨j + 1, r', by go_num, by omega, by omega, ?_, ?_, ?_⟩
            · have := HM.out.below h5
              rw [show o + (j + 1) * 4 = o + j * 4 + 4 from by omega]; exact this
            · have h1 := HW.out
              have h2 := HV.out
              simp only [Bool.not_eq_false'] at h2
              simp [VL.wf_cons, h1, h2]
            · exact below_call hb hBw hb1
          case measure => simp [intOf]; omega
  have HK : Hid (vwf k n s kids = false) := by show vwf k n s kids = false; simp [vwf, h1, h2, h3]
  go_enter Tryz.func130, Tryz.ntmps130
  go_wp2
  go_ret
  exact ⟨by rw [HK.out]; rfl, (Below.refl _ _).alloc (Nat.le_refl _) _⟩
end Go.Proofs.YteigldfdaciopaaGreatDoor

namespace Go.Proofs.YteigldfdaciopaaGreatDoor
open Go.RowKit

/-- The unsigned form. -/
def zig (n : Int) : Nat := if 0 ≤ n then (2 * n).toNat else (-2 * n - 1).toNat
theorem zig_nonneg {n : Int} (h : 0 ≤ n) : (zig n : Int) = 2 * n := by unfold zig; rw [if_pos h]; omega
theorem zig_neg {n : Int} (h : ¬ 0 ≤ n) : (zig n : Int) = -2 * n - 1 := by unfold zig; rw [if_neg h]; omega
/-- Back. -/
def zag (u : Nat) : Int := if u % 2 = 0 then (u / 2 : Nat) else -((u / 2 : Nat) : Int) - 1
theorem zag_zig (n : Int) : zag (zig n) = n := by
  by_cases h : 0 ≤ n
  · have := zig_nonneg h; unfold zag; split <;> omega
  · have := zig_neg h; unfold zag; split <;> omega
theorem zig_zag (u : Nat) : zig (zag u) = u := by
  by_cases h : u % 2 = 0
  · have e : zag u = (u / 2 : Nat) := by unfold zag; rw [if_pos h]
    have := zig_nonneg (n := zag u) (by omega); omega
  · have e : zag u = -((u / 2 : Nat) : Int) - 1 := by unfold zag; rw [if_neg h]
    have := zig_neg (n := zag u) (by omega); omega

theorem bv_ones (x : Nat) (h : x < 18446744073709551616) : x ^^^ 18446744073709551615 = 18446744073709551615 - x := by
  have h1 := BitVec.toNat_not (x := BitVec.ofNat 64 x)
  rw [BitVec.not_def, BitVec.toNat_xor, BitVec.toNat_ofNat, Nat.mod_eq_of_lt h] at h1
  have h2 : (BitVec.allOnes 64).toNat = 18446744073709551615 := by decide
  rw [h2, Nat.xor_comm] at h1
  omega

theorem i64_xor_comm (a b : Int) : bits .xor .i64 a b = bits .xor .i64 b a := by
  show IntKind.i64.wrap ((BitVec.ofInt 64 a ^^^ BitVec.ofInt 64 b).toNat : Int) = IntKind.i64.wrap ((BitVec.ofInt 64 b ^^^ BitVec.ofInt 64 a).toNat : Int)
  rw [BitVec.xor_comm]
theorem wrap_i64_nat (a : Nat) (h : a < 9223372036854775808) : IntKind.i64.wrap (a : Int) = (a : Int) := by
  rw [IntWalk.i64_left]; exact IntWalk.wrap64_in _ (by omega)
theorem i64_xor_zero (a : Nat) (h : a < 9223372036854775808) : bits .xor .i64 (a : Int) ((0 : Nat) : Int) = (a : Int) := by
  show IntKind.i64.wrap ((BitVec.ofInt 64 (a : Int) ^^^ BitVec.ofInt 64 ((0 : Nat) : Int)).toNat : Int) = _
  rw [BitVec.ofInt_natCast, BitVec.ofInt_natCast, BitVec.toNat_xor, BitVec.toNat_ofNat, BitVec.toNat_ofNat, Nat.mod_eq_of_lt (show a < 2 ^ 64 by omega)]
  simp only [Nat.zero_mod, Nat.xor_zero]
  exact wrap_i64_nat a h

set_option maxHeartbeats 400000 in
theorem refUnsigned (n : Int) (hn : I64 n) (w : World) :
    Calls Tryz.prog 133 #[.int .i64 n] w fun e w' => e = .returned (.int .u64 (zig n)) ∧ w = w' := by
  obtain ⟨h0, h1⟩ := hn
  by_cases hn : 0 ≤ n
  · have HZ : Hid ((zig n : Int) = 2 * n) := zig_nonneg hn
    go_enter Tryz.func133, Tryz.ntmps133
    go_wp2
    go_ret
    exact ⟨by rw [HZ.out]; rfl, rfl⟩
  · have HZ : Hid ((zig n : Int) = -2 * n - 1) := zig_neg hn
    go_enter Tryz.func133, Tryz.ntmps133
    go_wp2
    go_ret
    exact ⟨by rw [HZ.out]; simp; omega, rfl⟩

set_option maxHeartbeats 400000 in
theorem codecUnsigned (n : Int) (hn : I64 n) (w : World) :
    Calls Tryz.prog 138 #[.int .i64 n] w fun e w' => e = .returned (.int .u64 (zig n)) ∧ w = w' := by
  obtain ⟨h0, h1⟩ := hn
  by_cases hn : 0 ≤ n
  · have HZ : Hid ((zig n : Int) = 2 * n) := zig_nonneg hn
    go_enter Tryz.func138, Tryz.ntmps138
    go_wp2
    go_ret
    refine ⟨?_, rfl⟩
    rw [HZ.out]
    show Ending.returned (.int .u64 (bits .xor .u64 (n * 2) (n / 9223372036854775808))) = _
    rw [show n / 9223372036854775808 = ((0 : Nat) : Int) from by omega, show n * 2 = ((n.toNat * 2 : Nat) : Int) from by omega, bits_xor_u64_nat _ _ (by omega) (by omega), Nat.xor_zero]
    congr 2; omega
  · have HZ : Hid ((zig n : Int) = -2 * n - 1) := zig_neg hn
    go_enter Tryz.func138, Tryz.ntmps138
    go_wp2
    go_ret
    refine ⟨?_, rfl⟩
    rw [HZ.out]
    show Ending.returned (.int .u64 (bits .xor .u64 (IntKind.u64.wrap (IntKind.u64.wrap n * 2)) (IntKind.u64.wrap (n / 9223372036854775808)))) = _
    rw [IntKind.wrap_u64, IntKind.wrap_u64, IntKind.wrap_u64, show n / 9223372036854775808 % 18446744073709551616 = ((18446744073709551615 : Nat) : Int) from by omega, show n % 18446744073709551616 * 2 % 18446744073709551616 = (((2 * n + 18446744073709551616).toNat : Nat) : Int) from by omega, bits_xor_u64_nat _ _ (by omega) (by omega), bv_ones _ (by omega)]
    congr 2; omega

/-- How many digits to the base 128 a number below 128^f has (1 for 0). -/
def ndigF : Nat → Nat → Nat
  | 0, _ => 1
  | f + 1, u => if u < 128 then 1 else 1 + ndigF f (u / 128)
def ndig (u : Nat) : Nat := ndigF 9 u

theorem ndigF_bd : ∀ (f u : Nat), u < 128 ^ (f + 1) → u < 128 ^ ndigF f u ∧ (128 ≤ u → 128 ^ (ndigF f u - 1) ≤ u) ∧ 1 ≤ ndigF f u ∧ (u < 128 → ndigF f u = 1)
  | 0, u, h => by simp only [ndigF]; exact ⟨h, fun _ => by simp; omega, Nat.le_refl _, by simp⟩
  | f + 1, u, h => by
    simp only [ndigF]
    split
    · rename_i h1; refine ⟨by omega, by omega, by omega, by omega⟩
    · rename_i h1
      obtain ⟨a, b, c, d⟩ := ndigF_bd f (u / 128) (by rw [Nat.pow_succ] at h; omega)
      refine ⟨?_, fun _ => ?_, by omega, by omega⟩
      · rw [Nat.add_comm, Nat.pow_succ]; omega
      · rw [Nat.add_sub_cancel_left]
        by_cases h2 : 128 ≤ u / 128
        · have := b h2
          have e : 128 ^ ndigF f (u / 128) = 128 ^ (ndigF f (u / 128) - 1) * 128 := by rw [← Nat.pow_succ]; congr 1; omega
          omega
        · rw [d (by omega)]; omega

theorem or_one (u : Nat) : u ||| 1 = u + (1 - u % 2) := by
  have h1 : (u ||| 1) / 2 = u / 2 := by rw [Nat.or_div_two]; simp
  have h2 : (u ||| 1) % 2 = 1 := Nat.or_mod_two_eq_one.2 (.inr rfl)
  omega

theorem numSize (u : Nat) (hu : u ≤ 18446744073709551615) : (Lib.bitLen (u ||| 1) + 6) / 7 = ndig u := by
  rw [or_one]
  obtain ⟨a1, a2, a3⟩ := Lib.bitLenAux_bounds 64 (u + (1 - u % 2)) (by omega) (by omega)
  obtain ⟨b1, b2, b3, b4⟩ := ndigF_bd 9 u (by omega)
  unfold Lib.bitLen ndig
  generalize Lib.bitLenAux 64 (u + (1 - u % 2)) = b at *
  generalize ndigF 9 u = d at *
  have e : ∀ k, 128 ^ k = 2 ^ (7 * k) := fun k => by rw [Nat.pow_mul]
  have c1 : b - 1 < 7 * d := by
    refine (Nat.pow_lt_pow_iff_right (a := 2) (by decide)).1 (Nat.lt_of_le_of_lt a2 ?_)
    rw [e] at b1
    have h2 : 2 ^ (7 * d) = 2 * 2 ^ (7 * d - 1) := by rw [← Nat.pow_succ']; congr 1; omega
    omega
  by_cases h : 128 ≤ u
  · have c2 : 7 * (d - 1) < b := by
      refine (Nat.pow_lt_pow_iff_right (a := 2) (by decide)).1 (Nat.lt_of_le_of_lt ?_ a3)
      have := b2 h
      rw [e] at this
      omega
    omega
  · have := b4 (by omega)
    omega

set_option maxHeartbeats 400000 in
theorem numeralSize_any (u : Nat) (hu : u ≤ 18446744073709551615) (w : World) :
    Calls Tryz.prog 137 #[.int .u64 u] w fun e w' => e = .returned (.int .i64 (ndig u)) ∧ w = w' := by
  have hS : Hid ((Lib.bitLen (u ||| 1) + 6) / 7 = ndig u) := numSize u hu
  have hO : Hid (bits .or .u64 (u : Int) 1 = ((u ||| 1 : Nat) : Int)) := bits_or_u64_nat u 1 (by omega) (by omega)
  have hx : u ||| 1 ≤ 18446744073709551615 := by rw [or_one]; omega
  have hb : Lib.bitLen (u ||| 1) ≤ 70 := by
    have h2 := (ndigF_bd 9 u (by omega))
    have h3 : ndigF 9 u ≤ 10 := by
      have h4 : ∀ f u, ndigF f u ≤ f + 1 := by
        intro f; induction f with
        | zero => intro u; simp [ndigF]
        | succ f ih => intro u; simp only [ndigF]; split; omega; have := ih (u / 128); omega
      exact h4 9 u
    have := numSize u hu
    unfold ndig at this
    omega
  go_enter Tryz.func137, Tryz.ntmps137
  go_wp2_with fail
  rw [hO.out]
  refine (Tryz.bits_Len64 _ _ (by omega) (by omega)).mono ?_
  rintro e w' ⟨rfl, rfl⟩
  rw [Int.toNat_natCast]
  generalize Lib.bitLen (u ||| 1) = b at *
  go_wp2
  go_ret
  exact ⟨by rw [← hS.out]; rfl, rfl⟩
end Go.Proofs.YteigldfdaciopaaGreatDoor

namespace Go.Proofs.YteigldfdaciopaaGreatDoor
open Go.RowKit

theorem int_max_nat2 (k : IntKind) (p q : Nat) : Value.int k (max (p : Int) (q : Int)) = Value.int k ((max p q : Nat) : Int) := by congr 1; omega

/-- Of one value. -/
def vdepth (k : Int) (kids : VL) : Nat := if k = 3 then 1 + kids.depth else 0
theorem VL.depth_cons (k n : Int) (s : ByteArray) (kids r : VL) : (VL.cons k n s kids r).depth = max (vdepth k kids) r.depth := rfl
theorem VL.depth_le (f : VL) : f.depth ≤ f.sz := by
  induction f with
  | nil => simp [VL.depth]
  | cons k n s kids r h1 h2 => rw [VL.depth_cons]; simp only [vdepth, VL.sz]; split <;> omega

set_option maxHeartbeats 400000 in
theorem depth_any (m : Nat) : ∀ (B : Nat) (k n : Int) (s : ByteArray) (a : Option Addr) (cap : Nat) (kids : VL) (w : World), kids.sz ≤ m → m ≤ 1000000000000 → I64 k → I64 n → s.size ≤ maxLen → RepS B w a cap kids → B ≤ w.heap.size →
    Calls Tryz.prog 136 #[.agg #[.int .i64 k, .int .i64 n, .string s, .slice a kids.len cap]] w fun e w' => e = .returned (.int .i64 (vdepth k kids : Nat)) ∧ Below w.heap.size w w' := by
  induction m with
  | zero => intro B k n s a cap kids w hm; have := kids.sz_pos; omega
  | succ m ih =>
  intro B k n s a cap kids w hm hmm hk hn hs hr hB
  obtain ⟨hn0, hn1⟩ := hn
  by_cases h3 : k = 3
  · subst h3
    have hl := hr.1
    obtain ⟨b, o, hf, HA⟩ := hr.at
    have HR := Lib.hid hr
    clear hr
    unfold maxLen at hl
    have hd := kids.depth_le
    go_enter Tryz.func136, Tryz.ntmps136
    go_wp2
    go_loopw [12, 3] (fun i d wr => ∃ (j p : Nat) (r : VL), i = .int .i64 j ∧ d = .int .i64 p ∧ j + r.len = kids.len ∧ r.sz ≤ m + 1 ∧ RepL B wr b (o + j * 4) r ∧ max p r.depth = kids.depth ∧ Below (w.heap.size + 1) (w.alloc (.cells #[.int .i64 3, .int .i64 n, .string s, .slice a kids.len cap] 100)) wr) (fun i _ _ => kids.len - (intOf i).toNat)
    case atStart => exact ⟨0, 0, kids, rfl, rfl, by omega, hm, by simpa using hf.below ((Below.refl _ _).alloc hB _) _ _ _, by omega, Below.refl _ _⟩
    case round =>
      obtain ⟨j, p, r, rfl, rfl, hj, hm', hr, hw, hb⟩ := hrel
      have hp : p ≤ 1000000000000 := by omega
      have HW := Lib.hid hw; clear hw
      have c3 : wr.cell? ⟨w.heap.size, 3, none⟩ = some (.slice a kids.len cap) := by rw [hb.cell (by simp)]; simp
      cases r with
      | nil =>
        have : j = kids.len := by simpa [VL.len] using hj
        go_wp2
        all_goals
          go_ret
          refine ⟨?_, below_start hb⟩
          have h1 := HW.out
          simp only [VL.depth, Nat.max_zero] at h1
          simp [vdepth, h1]; try omega
      | cons k' n' s' kids' r' =>
        simp only [VL.len] at hj
        have hlt : j < kids.len := by omega
        have ha : a = some ⟨b, o, none⟩ := by
          rcases HA.out with h | h
          · rw [h] at hlt; simp [VL.len] at hlt
          · exact h
        subst ha
        obtain ⟨q0, q1, q2, q3, q4, q5, q6, ⟨a', cap', q7, q8⟩, q9⟩ := hr
        simp only [VL.sz] at hm'
        have := kids'.sz_pos
        have := r'.sz_pos
        have hBw : w.heap.size + 1 ≤ wr.heap.size := by simpa using hb.size
        have hBr : B ≤ wr.heap.size := by omega
        have HS : RepS B wr a' cap' kids' := q8
        have HM : Hid (RepL B wr b (o + j * 4 + 4) r') := q9
        clear q8 q9
        go_wp2_with (go_at_call 136; refine (ih B k' n' s' a' cap' kids' _ (by omega) (by omega) q1 q2 q3 (HS.below ((Below.refl _ _).alloc hBr _)) (by simp; omega)).mono ?_; rintro e w1 ⟨rfl, hb1⟩)
        all_goals
          have h5 : Below B wr w1 := ((Below.refl _ _).alloc hBr _).trans (hb1.mono (by simp; omega))
          go_roundw
          case rel =>
            refine ⟨j + 1, max p (vdepth k' kids'), r', by go_num, (by first | exact int_max_nat _ _ _ | exact int_max_nat2 _ _ _), by omega, by omega, ?_, ?_, below_alloc_call hb hBw hb1⟩
            · have := HM.out.below h5
              rw [show o + (j + 1) * 4 = o + j * 4 + 4 from by omega]; exact this
            · have h1 := HW.out
              rw [VL.depth_cons] at h1
              omega
          case measure => simp [intOf]; omega
  have HK : Hid (vdepth k kids = 0) := by show vdepth k kids = 0; simp [vdepth, h3]
  go_enter Tryz.func136, Tryz.ntmps136
  go_wp2
  go_ret
  exact ⟨by rw [HK.out]; rfl, (Below.refl _ _).alloc (Nat.le_refl _) _⟩

set_option maxHeartbeats 400000 in
theorem refDepth_any (m : Nat) : ∀ (B : Nat) (k n : Int) (s : ByteArray) (a : Option Addr) (cap : Nat) (kids : VL) (w : World), kids.sz ≤ m → m ≤ 1000000000000 → I64 k → I64 n → s.size ≤ maxLen → RepS B w a cap kids → B ≤ w.heap.size →
    Calls Tryz.prog 131 #[.agg #[.int .i64 k, .int .i64 n, .string s, .slice a kids.len cap]] w fun e w' => e = .returned (.int .i64 (vdepth k kids : Nat)) ∧ Below w.heap.size w w' := by
  induction m with
  | zero => intro B k n s a cap kids w hm; have := kids.sz_pos; omega
  | succ m ih =>
  intro B k n s a cap kids w hm hmm hk hn hs hr hB
  obtain ⟨hn0, hn1⟩ := hn
  by_cases h3 : k = 3
  · subst h3
    have hl := hr.1
    obtain ⟨b, o, hf, HA⟩ := hr.at
    have HR := Lib.hid hr
    clear hr
    unfold maxLen at hl
    have hd := kids.depth_le
    go_enter Tryz.func131, Tryz.ntmps131
    go_wp2
    go_loopw [4, 3] (fun i d wr => ∃ (j p : Nat) (r : VL), i = .int .i64 j ∧ d = .int .i64 p ∧ j + r.len = kids.len ∧ r.sz ≤ m + 1 ∧ RepL B wr b (o + j * 4) r ∧ max p r.depth = kids.depth ∧ Below (w.heap.size + 1) (w.alloc (.cells #[.int .i64 3, .int .i64 n, .string s, .slice a kids.len cap] 100)) wr) (fun i _ _ => kids.len - (intOf i).toNat)
    case atStart => exact ⟨0, 0, kids, rfl, rfl, by omega, hm, by simpa using hf.below ((Below.refl _ _).alloc hB _) _ _ _, by omega, Below.refl _ _⟩
    case round =>
      obtain ⟨j, p, r, rfl, rfl, hj, hm', hr, hw, hb⟩ := hrel
      have hp : p ≤ 1000000000000 := by omega
      have HW := Lib.hid hw; clear hw
      have c3 : wr.cell? ⟨w.heap.size, 3, none⟩ = some (.slice a kids.len cap) := by rw [hb.cell (by simp)]; simp
      cases r with
      | nil =>
        have : j = kids.len := by simpa [VL.len] using hj
        go_wp2
        all_goals
          go_ret
          refine ⟨?_, below_start hb⟩
          have h1 := HW.out
          simp only [VL.depth, Nat.max_zero] at h1
          simp [vdepth, h1]; try omega
      | cons k' n' s' kids' r' =>
        simp only [VL.len] at hj
        have hlt : j < kids.len := by omega
        have ha : a = some ⟨b, o, none⟩ := by
          rcases HA.out with h | h
          · rw [h] at hlt; simp [VL.len] at hlt
          · exact h
        subst ha
        obtain ⟨q0, q1, q2, q3, q4, q5, q6, ⟨a', cap', q7, q8⟩, q9⟩ := hr
        simp only [VL.sz] at hm'
        have := kids'.sz_pos
        have := r'.sz_pos
        have hBw : w.heap.size + 1 ≤ wr.heap.size := by simpa using hb.size
        have hBr : B ≤ wr.heap.size := by omega
        have HS : RepS B wr a' cap' kids' := q8
        have HM : Hid (RepL B wr b (o + j * 4 + 4) r') := q9
        clear q8 q9
        go_wp2_with (go_at_call 131; refine (ih B k' n' s' a' cap' kids' _ (by omega) (by omega) q1 q2 q3 HS hBr).mono ?_; rintro e w1 ⟨rfl, hb1⟩)
        all_goals
          have h5 : Below B wr w1 := hb1.mono hBr
          go_roundw
          case rel =>
            refine ⟨j + 1, max p (vdepth k' kids'), r', by go_num, (by first | exact int_max_nat _ _ _ | exact int_max_nat2 _ _ _), by omega, by omega, ?_, ?_, below_call hb hBw hb1⟩
            · have := HM.out.below h5
              rw [show o + (j + 1) * 4 = o + j * 4 + 4 from by omega]; exact this
            · have h1 := HW.out
              rw [VL.depth_cons] at h1
              omega
          case measure => simp [intOf]; omega
  have HK : Hid (vdepth k kids = 0) := by show vdepth k kids = 0; simp [vdepth, h3]
  go_enter Tryz.func131, Tryz.ntmps131
  go_wp2
  go_ret
  exact ⟨by rw [HK.out]; rfl, (Below.refl _ _).alloc (Nat.le_refl _) _⟩

end Go.Proofs.YteigldfdaciopaaGreatDoor

namespace Go.Proofs.YteigldfdaciopaaGreatDoor
open Go.RowKit

def VL.size : VL → Nat
  | .nil => 0
  | .cons k n s kids r => (if k = 1 then 1 + ndig (zig n) else if k = 2 then 1 + ndig s.size + s.size else 1 + ndig kids.len + kids.size) + r.size
/-- Of one value. -/
def vsize (k n : Int) (s : ByteArray) (kids : VL) : Nat := if k = 1 then 1 + ndig (zig n) else if k = 2 then 1 + ndig s.size + s.size else 1 + ndig kids.len + kids.size
theorem VL.size_cons (k n : Int) (s : ByteArray) (kids r : VL) : (VL.cons k n s kids r).size = vsize k n s kids + r.size := rfl
theorem ndigF_le : ∀ (f u : Nat), ndigF f u ≤ f + 1
  | 0, u => by simp [ndigF]
  | f + 1, u => by simp only [ndigF]; have := ndigF_le f (u / 128); split <;> omega
theorem ndig_le (u : Nat) : ndig u ≤ 10 := ndigF_le 9 u
theorem zig_le {n : Int} (h : I64 n) : zig n ≤ 18446744073709551615 := by
  obtain ⟨h0, h1⟩ := h
  by_cases h2 : 0 ≤ n
  · have := zig_nonneg h2; omega
  · have := zig_neg h2; omega

set_option maxHeartbeats 400000 in
theorem size_any (m : Nat) : ∀ (B : Nat) (k n : Int) (s : ByteArray) (a : Option Addr) (cap : Nat) (kids : VL) (w : World), kids.sz ≤ m → vsize k n s kids ≤ 1000000000000 → I64 k → I64 n → s.size ≤ maxLen → RepS B w a cap kids → B ≤ w.heap.size →
    Calls Tryz.prog 126 #[.agg #[.int .i64 k, .int .i64 n, .string s, .slice a kids.len cap]] w fun e w' => e = .returned (.int .i64 (vsize k n s kids : Nat)) ∧ Below w.heap.size w w' := by
  induction m with
  | zero => intro B k n s a cap kids w hm; have := kids.sz_pos; omega
  | succ m ih =>
  intro B k n s a cap kids w hm hv hk hn hs hr hB
  have hzl := zig_le hn
  have hI := Lib.hid hn
  obtain ⟨hn0, hn1⟩ := hn
  by_cases h1 : k = 1
  · subst h1
    have HK : Hid (vsize 1 n s kids = 1 + ndig (zig n)) := rfl
    have hd := ndig_le (zig n)
    clear hv
    go_enter Tryz.func126, Tryz.ntmps126
    go_wp2_with (first | (go_at_call 138; refine (codecUnsigned n hI.out _).mono ?_; rintro e w' ⟨rfl, rfl⟩) | (go_at_call 137; refine (numeralSize_any _ hzl _).mono ?_; rintro e w' ⟨rfl, rfl⟩))
    go_ret
    exact ⟨by rw [HK.out]; simp, (Below.refl _ _).alloc (Nat.le_refl _) _⟩
  by_cases h2 : k = 2
  · subst h2
    have HK : Hid (vsize 2 n s kids = 1 + ndig s.size + s.size) := rfl
    have hd := ndig_le s.size
    have hs2 : s.size ≤ 1000000000000 := by have := HK.out; omega
    clear hv
    go_enter Tryz.func126, Tryz.ntmps126
    go_wp2_with fail
    go_quiet ((go_at_call 137; exact Calls.quiet_of_same ((numeralSize_any _ (by omega) _).mono fun _ _ h => ⟨h.1, h.2.symm⟩)))
    go_wp2
    go_ret
    exact ⟨by rw [HK.out]; simp, by first | exact below_drewN _ ((Below.refl _ _).alloc (Nat.le_refl _) _) | exact below_drewN ((Below.refl _ _).alloc (Nat.le_refl _) _) _⟩
  have HK : Hid (vsize k n s kids = 1 + ndig kids.len + kids.size) := by show vsize k n s kids = _; simp [vsize, h1, h2]
  have hd := ndig_le kids.len
  have hl := hr.1
  obtain ⟨b, o, hf, HA⟩ := hr.at
  have HR := Lib.hid hr
  clear hr
  unfold maxLen at hl
  have hsz : 1 + ndig kids.len + kids.size ≤ 1000000000000 := by have := HK.out; omega
  clear hv
  have g1 : (k == 1) = false := by simpa using h1
  have g2 : (k == 2) = false := by simpa using h2
  go_enter Tryz.func126, Tryz.ntmps126
  go_wp2_with (go_at_call 137; refine (numeralSize_any kids.len (by omega) _).mono ?_; rintro e w' ⟨rfl, rfl⟩)
  go_loopw [36, 3] (fun i d wr => ∃ (j p : Nat) (r : VL), i = .int .i64 j ∧ d = .int .i64 p ∧ j + r.len = kids.len ∧ r.sz ≤ m + 1 ∧ RepL B wr b (o + j * 4) r ∧ p + r.size = 1 + ndig kids.len + kids.size ∧ Below (w.heap.size + 1) (w.alloc (.cells #[.int .i64 k, .int .i64 n, .string s, .slice a kids.len cap] 100)) wr) (fun i _ _ => kids.len - (intOf i).toNat)
  case atStart => exact ⟨0, 1 + ndig kids.len, kids, rfl, by go_num, by omega, hm, by simpa using hf.below ((Below.refl _ _).alloc hB _) _ _ _, by omega, Below.refl _ _⟩
  case round =>
    obtain ⟨j, p, r, rfl, rfl, hj, hm', hr, hw, hb⟩ := hrel
    have hp : p ≤ 1000000000000 := by omega
    cases r with
    | nil =>
      have : j = kids.len := by simpa [VL.len] using hj
      have HW := Lib.hid hw; clear hw
      go_wp2
      go_ret
      refine ⟨?_, below_start hb⟩
      have h1 := HW.out
      simp only [VL.size, Nat.add_zero] at h1
      rw [HK.out, h1]; rfl
    | cons k' n' s' kids' r' =>
      rw [VL.size_cons] at hw
      have hp2 : p + vsize k' n' s' kids' ≤ 1000000000000 := by omega
      have HW := Lib.hid hw; clear hw
      simp only [VL.len] at hj
      have hlt : j < kids.len := by omega
      have ha : a = some ⟨b, o, none⟩ := by
        rcases HA.out with h | h
        · rw [h] at hlt; simp [VL.len] at hlt
        · exact h
      subst ha
      obtain ⟨q0, q1, q2, q3, q4, q5, q6, ⟨a', cap', q7, q8⟩, q9⟩ := hr
      simp only [VL.sz] at hm'
      have := kids'.sz_pos
      have := r'.sz_pos
      have hBw : w.heap.size + 1 ≤ wr.heap.size := by simpa using hb.size
      have hBr : B ≤ wr.heap.size := by omega
      have HS : RepS B wr a' cap' kids' := q8
      have HM : Hid (RepL B wr b (o + j * 4 + 4) r') := q9
      clear q8 q9
      go_wp2_with (go_at_call 126; refine (ih B k' n' s' a' cap' kids' _ (by omega) (by omega) q1 q2 q3 (HS.below ((Below.refl _ _).alloc hBr _)) (by simp; omega)).mono ?_; rintro e w1 ⟨rfl, hb1⟩)
      all_goals
        have h5 : Below B wr w1 := ((Below.refl _ _).alloc hBr _).trans (hb1.mono (by simp; omega))
        go_roundw
        case rel =>
          refine ⟨j + 1, p + vsize k' n' s' kids', r', by go_num, by go_num, by omega, by omega, ?_, ?_, below_alloc_call hb hBw hb1⟩
          · have := HM.out.below h5
            rw [show o + (j + 1) * 4 = o + j * 4 + 4 from by omega]; exact this
          · have h1 := HW.out
            omega
        case measure => simp [intOf]; omega
end Go.Proofs.YteigldfdaciopaaGreatDoor

namespace Go.Proofs.YteigldfdaciopaaGreatDoor
open Go.RowKit

def numF : Nat → Nat → List UInt8
  | 0, u => [UInt8.ofNat u]
  | f + 1, u => if u < 128 then [UInt8.ofNat u] else UInt8.ofNat (u % 128 + 128) :: numF f (u / 128)
/-- The numeral of a number of 64 bits. -/
def numeral (u : Nat) : List UInt8 := numF 9 u
theorem numF_length : ∀ (f u : Nat), (numF f u).length = ndigF f u
  | 0, u => rfl
  | f + 1, u => by
    simp only [numF, ndigF]
    split
    · rfl
    · simp [numF_length f]; omega
theorem numeral_length (u : Nat) : (numeral u).length = ndig u := numF_length 9 u
def VL.enc : VL → List UInt8
  | .nil => []
  | .cons k n s kids r => (if k = 1 then 1 :: numeral (zig n) else if k = 2 then 2 :: (numeral s.size ++ s.data.toList) else 3 :: (numeral kids.len ++ kids.enc)) ++ r.enc
/-- Of one value. -/
def venc (k n : Int) (s : ByteArray) (kids : VL) : List UInt8 := if k = 1 then 1 :: numeral (zig n) else if k = 2 then 2 :: (numeral s.size ++ s.data.toList) else 3 :: (numeral kids.len ++ kids.enc)
theorem VL.enc_cons (k n : Int) (s : ByteArray) (kids r : VL) : (VL.cons k n s kids r).enc = venc k n s kids ++ r.enc := rfl
theorem VL.enc_length (f : VL) : f.enc.length = f.size := by
  induction f with
  | nil => rfl
  | cons k n s kids r h1 h2 =>
    simp only [VL.enc, VL.size]
    have e : s.data.size = s.size := rfl
    split
    · simp [numeral_length, h2]; omega
    · split
      · simp [numeral_length, h2, e]; omega
      · simp [numeral_length, h1, h2]; omega
theorem venc_length (k n : Int) (s : ByteArray) (kids : VL) : (venc k n s kids).length = vsize k n s kids := by
  have := VL.enc_length (.cons k n s kids .nil)
  rw [VL.enc_cons, VL.size_cons] at this
  simpa [show VL.nil.enc = [] from rfl, show VL.nil.size = 0 from rfl] using this

set_option maxHeartbeats 400000 in
theorem refNumeral1 (u : Nat) (w : World) (hu : u < 128) :
    Calls Tryz.prog 132 #[.int .u64 u] w fun e w' => ∃ v, e = .returned v ∧ OwnB w.heap.size w' v [UInt8.ofNat u] ∧ Below w.heap.size w w' := by
  have hlt : (u : Int) < 128 := by omega
  go_enter Tryz.func132, Tryz.ntmps132
  go_wp2_with fail
  go_ret
  have := OwnB.built (B := w.heap.size) (w := w) (UInt8.ofNat u) (Nat.le_refl _)
  rw [bv_ofNat _ (by omega)] at this
  exact ⟨_, rfl, this, (Below.refl _ _).alloc (Nat.le_refl _) _⟩

set_option maxHeartbeats 400000 in
theorem refNumeral (f : Nat) : ∀ (u : Nat) (w : World), u ≤ 18446744073709551615 → u < 128 ^ (f + 1) → f ≤ 100 →
    Calls Tryz.prog 132 #[.int .u64 u] w fun e w' => ∃ v, e = .returned v ∧ OwnB w.heap.size w' v (numF f u) ∧ Below w.heap.size w w' := by
  induction f with
  | zero =>
    intro u w hu hf _
    exact refNumeral1 u w (by omega)
  | succ f ih =>
    intro u w hu hf hff
    by_cases h : u < 128
    · rw [show numF (f + 1) u = [UInt8.ofNat u] from by simp [numF, h]]
      exact refNumeral1 u w h
    · obtain ⟨c, HN, HB⟩ : ∃ c, Hid (numF (f + 1) u = c :: numF f (u / 128)) ∧ Hid (bv c = .int .u8 ((u : Int) % 128 + 128)) :=
        ⟨UInt8.ofNat (u % 128 + 128), by show _ = _; simp [numF, h], by show _ = _; rw [bv_ofNat _ (by omega)]; simp⟩
      have hge : ¬ (u : Int) < 128 := by omega
      have hL := ndigF_le f (u / 128)
      rw [← numF_length] at hL
      have hpow : u / 128 < 128 ^ (f + 1) := by rw [Nat.pow_succ] at hf; omega
      have HP := Lib.hid hpow
      clear hpow hf
      go_enter Tryz.func132, Tryz.ntmps132
      go_wp2_with fail
      rw [show (u : Int) / 128 = ((u / 128 : Nat) : Int) from by omega]
      refine (ih (u / 128) _ (by omega) HP.out (by omega)).mono ?_
      rintro e w1 ⟨v, rfl, hown, hb⟩
      obtain ⟨a', cap', rfl, hfm, hrd⟩ := hown.form
      have hw1 : w.heap.size + 1 ≤ w1.heap.size := by simpa using hb.size
      have h0 : OwnB w.heap.size w1 (.slice (some ⟨w.heap.size, 0, none⟩) 1 1) [c] := by
        have := OwnB.built (B := w.heap.size) (w := w) c (Nat.le_refl _)
        rw [HB.out] at this
        exact this.below hb
      have HF := Lib.hid hfm
      clear hfm
      go_wp2_with (at_builtin; refine wpList_appB rfl _ _ rfl w.heap.size _ _ _ _ _ rfl h0 rfl hrd ?c1 ?c2 ?c3 ?_)
      case c1 => intro h; rcases HF.out with h1 | ⟨g, h1, _⟩ <;> simp_all
      case c2 => simp; omega
      case c3 => omega
      intro v' w2 hown' hb2
      have hb2 := hb2.below h0.base (by omega)
      go_wp2
      go_ret
      exact ⟨_, rfl, by rw [HN.out]; exact hown', (below_start (hb.mono (by simp))).trans hb2⟩

set_option maxRecDepth 100000 in
set_option maxHeartbeats 400000 in
theorem appendNumeral_any (B u : Nat) (v : Value) (l : List UInt8) (w : World) (hu : u ≤ 18446744073709551615) (hown : OwnB B w v l) (hl : l.length ≤ 10000000000000) (hB : B ≤ w.heap.size) :
    Calls Tryz.prog 144 #[v, .int .u64 u] w fun e w' => ∃ v', e = .returned v' ∧ OwnB B w' v' (l ++ numeral u) ∧ Grew w v w' v' := by
  have HP0 : Hid (u < 128 ^ (9 + 1)) := by show _ < _; omega
  obtain ⟨tot, HT⟩ : ∃ t, Hid (t = l ++ numeral u) := ⟨_, rfl⟩
  rw [← HT.out]
  have htl : tot.length ≤ 10000000000010 := by have := HT.out; rw [this, List.length_append, numeral_length]; have := ndig_le u; omega
  have HT' : Hid (l ++ numF 9 u = tot) := HT.out.symm
  clear HT
  go_enter Tryz.func144, Tryz.ntmps144
  go_wp2
  go_loopw [0, 1] (fun b x wr => ∃ (f y : Nat) (l' : List UInt8), x = .int .u64 y ∧ y ≤ 18446744073709551615 ∧ Hid (y < 128 ^ (f + 1)) ∧ OwnB B wr b l' ∧ Hid (l' ++ numF f y = tot) ∧ Grew w v wr b) (fun _ x _ => (intOf x).toNat)
  case atStart => exact ⟨9, u, l, rfl, hu, HP0, hown, HT', Grew.refl _ _⟩
  case round =>
    obtain ⟨f, y, l', rfl, hy, HP, hown', HT2, hb⟩ := hrel
    have hsz := hb.size
    have hll : l'.length ≤ 10000000000010 := by have := congrArg List.length HT2.out; rw [List.length_append] at this; omega
    by_cases h : y < 128
    · have hlt : (y : Int) < 128 := by omega
      obtain ⟨c, HN, HB⟩ : ∃ c, Hid (numF f y = [c]) ∧ Hid (bv c = .int .u8 (y : Int)) :=
        ⟨UInt8.ofNat y, by show _ = _; cases f <;> simp [numF, h], by show _ = _; rw [bv_ofNat _ (by omega)]⟩
      go_wp2_with (at_builtin; refine wpList_app1 rfl _ _ rfl B _ l' c wr.heap.size rfl (hown'.alloc _) rfl ?c1 ?c2 ?c3 ?_)
      case c1 => rw [HB.out]; simp
      case c2 => omega
      case c3 => simp; omega
      intro v' w2 h3 hb2
      go_wp2
      go_ret
      have h1 := HT2.out
      rw [HN.out] at h1
      exact ⟨_, rfl, h1 ▸ h3, (hb.alloc _).trans hb2⟩
    · have hge : ¬ (y : Int) < 128 := by omega
      cases f with
      | zero => exfalso; have := HP.out; omega
      | succ f =>
      obtain ⟨c, HN, HB⟩ : ∃ c, Hid (numF (f + 1) y = c :: numF f (y / 128)) ∧ Hid (bv c = .int .u8 ((y : Int) % 128 + 128)) :=
        ⟨UInt8.ofNat (y % 128 + 128), by show _ = _; simp [numF, h], by show _ = _; rw [bv_ofNat _ (by omega)]; simp⟩
      go_wp2_with (at_builtin; refine wpList_app1 rfl _ _ rfl B _ l' c wr.heap.size rfl (hown'.alloc _) rfl ?c1 ?c2 ?c3 ?_)
      case c1 => rw [HB.out]
      case c2 => omega
      case c3 => omega
      intro v' w2 h3 hb2
      have HH := Lib.hid h3
      clear h3
      go_wp2
      go_roundw
      case rel =>
        refine ⟨f, y / 128, l' ++ [c], by go_num, ?_, ?_, HH.out, ?_, (hb.alloc _).trans hb2⟩
        · omega
        · show _ < _; have := HP.out; rw [Nat.pow_succ] at this; omega
        · show _ = _; have := HT2.out; rw [HN.out] at this; simpa using this
      case measure => simp [intOf]; omega
end Go.Proofs.YteigldfdaciopaaGreatDoor

namespace Go.Proofs.YteigldfdaciopaaGreatDoor
open Go.RowKit

theorem venc1 (n : Int) (s : ByteArray) (kids : VL) : venc 1 n s kids = [1] ++ numeral (zig n) := rfl
theorem venc2 (n : Int) (s : ByteArray) (kids : VL) : venc 2 n s kids = [2] ++ numeral s.size ++ s.data.toList := by simp [venc]
theorem venc3 {k : Int} (h1 : ¬ k = 1) (h2 : ¬ k = 2) (n : Int) (s : ByteArray) (kids : VL) : venc k n s kids = [3] ++ numeral kids.len ++ kids.enc := by simp [venc, h1, h2]
/-- A contract's post, kept from the walk. -/
def RetB (B : Nat) (w : World) (l : List UInt8) (e : Ending) (w' : World) : Prop := ∃ v, e = .returned v ∧ OwnB w.heap.size w' v l ∧ Below w.heap.size w w'

set_option maxRecDepth 100000 in
set_option maxHeartbeats 400000 in
theorem refEncode1 (n : Int) (s : ByteArray) (a : Option Addr) (cap : Nat) (kids : VL) (w : World) (hn : I64 n) :
    Calls Tryz.prog 117 #[.agg #[.int .i64 1, .int .i64 n, .string s, .slice a kids.len cap]] w fun e w' => ∃ v, e = .returned v ∧ OwnB w.heap.size w' v (venc 1 n s kids) ∧ Below w.heap.size w w' := by
  have hzl := zig_le hn
  have hd := ndig_le (zig n)
  rw [← numeral_length] at hd
  have HP : Hid (zig n < 128 ^ (9 + 1)) := by show _ < _; omega
  go_enter Tryz.func117, Tryz.ntmps117
  go_wp2_with (go_at_call 133; refine (refUnsigned n hn _).mono ?_; rintro e w' ⟨rfl, rfl⟩)
  refine (refNumeral 9 (zig n) _ (by omega) HP.out (by omega)).mono ?_
  rintro e w1 ⟨v, rfl, hown, hb⟩
  obtain ⟨a', cap', rfl, hfm, hrd⟩ := hown.form
  have hw1 : w.heap.size + 2 ≤ w1.heap.size := by simpa using hb.size
  have h0 : OwnB w.heap.size w1 (.slice (some ⟨w.heap.size + 1, 0, none⟩) 1 1) [1] := by
    have := OwnB.built' (B := w.heap.size) (w := w.alloc (.cells #[.int .i64 1, .int .i64 n, .string s, .slice a kids.len cap] 100)) 1 (w.heap.size + 1) (by simp) (by simp)
    exact this.below hb
  have HF := Lib.hid hfm
  clear hfm
  have hb0 : Below w.heap.size w w1 := (((Below.refl _ _).alloc (Nat.le_refl _) _).alloc (by simp) _).trans (hb.mono (by simp; omega))
  go_wp2_with (at_builtin; refine wpList_appB rfl _ _ rfl w.heap.size _ _ _ _ _ rfl h0 rfl hrd ?c1 ?c2 ?c3 ?_)
  case c1 => intro h; rcases HF.out with h1 | ⟨g, h1, _⟩ <;> simp_all
  case c2 => have := hd; simp only [numeral] at this; simp; omega
  case c3 => omega
  intro v' w2 hown' hb2
  have hb2 := hb2.below h0.base (by omega)
  have HH := Lib.hid hown'
  clear hown'
  go_wp2
  go_ret
  exact ⟨_, rfl, by rw [venc1]; exact HH.out, hb0.trans hb2⟩

set_option maxRecDepth 100000 in
set_option maxHeartbeats 400000 in
theorem refEncode2 (n : Int) (s : ByteArray) (a : Option Addr) (cap : Nat) (kids : VL) (w : World) (hn : I64 n) (hs : s.size ≤ 1000000000000) :
    Calls Tryz.prog 117 #[.agg #[.int .i64 2, .int .i64 n, .string s, .slice a kids.len cap]] w fun e w' => ∃ v, e = .returned v ∧ OwnB w.heap.size w' v (venc 2 n s kids) ∧ Below w.heap.size w w' := by
  have hd := ndig_le s.size
  rw [← numeral_length] at hd
  have HP : Hid (s.size < 128 ^ (9 + 1)) := by show _ < _; omega
  go_enter Tryz.func117, Tryz.ntmps117
  have hwr : IntKind.u64.wrap (s.size : Int) = (s.size : Int) := by rw [IntKind.wrap_u64]; omega
  have hss : s.data.toList.length = s.size := Array.length_toList
  have HS := Lib.hid hss
  clear hss
  go_wp2_with fail
  go_region_held3 (fun w' => w'.cell? ⟨w.heap.size, 2, none⟩ = some (.string s) ∧ Below (w.heap.size + 1) (w.alloc (.cells #[.int .i64 2, .int .i64 n, .string s, .slice a kids.len cap] 100)) w')
    (first
      | exact ⟨hc3, hB3⟩
      | exact ⟨hc2, hB2⟩
      | exact ⟨by rw [World.cell?_alloc_past _ _ _ (by omega)]; exact hc1, hB1.alloc (by omega) _⟩
      | exact ⟨hc1, hB1⟩
      | exact ⟨by simp, (Below.refl _ _).drew⟩
      | exact ⟨by simp, ((Below.refl _ _).alloc (by simp) _).drew⟩)
    (first
      | (go_at_call 132
         refine (refNumeral 9 _ _ (by omega) HP.out (by omega)).mono ?_
         rintro e w1 ⟨v, rfl, hown, hb⟩
         obtain ⟨a', cap', rfl, hfm, hrd⟩ := hown.form
         have HF : Hid (a' = none → cap' = 0) := by
           show _ → _
           intro h; rcases hfm with h1 | ⟨g, h1, _⟩ <;> simp_all
         clear hfm
         have hB1 : Below (w.heap.size + 1) (w.alloc (.cells #[.int .i64 2, .int .i64 n, .string s, .slice a kids.len cap] 100)) w1 := by
           first
             | exact (((Below.refl _ _).alloc (by simp) _).drew).trans (hb.mono (by simp))
             | exact ((Below.refl _ _).drew).trans (hb.mono (by simp))
         have hc1 : w1.cell? ⟨w.heap.size, 2, none⟩ = some (.string s) := by rw [hB1.cell (by simp)]; simp
         have hz1 : w.heap.size + 1 ≤ w1.heap.size := by simpa using hB1.size
         have HO : Hid (OwnB (w.heap.size + 1) w1 (.slice a' (numF 9 s.size).length cap') (numF 9 s.size)) := hown.mono (by simp))
      | (have h0 : OwnB (w.heap.size + 1) w1 (.slice (some ⟨w.heap.size + 1, 0, none⟩) 1 1) [2] := OwnB.below (OwnB.built' (w := (w.alloc (.cells #[.int .i64 2, .int .i64 n, .string s, .slice a kids.len cap] 100))) 2 (w.heap.size + 1) (by simp) (by simp)).drew hb
         refine step_appB (by rfl) _ _ (by rfl) (w.heap.size + 1) _ [2] _ _ _ (by rfl) h0 (by rfl) (hrd.mono (by simp)) HF.out ?_ ?_ ?_
         · simp only [List.length_singleton]; have := hd; simp only [numeral] at this; omega
         · first | omega | (simp; omega)
         intro v' w2 hown' hb2
         have hB2 : Below (w.heap.size + 1) (w.alloc (.cells #[.int .i64 2, .int .i64 n, .string s, .slice a kids.len cap] 100)) w2 := hB1.trans (hb2.below h0.base hz1)
         have hc2 : w2.cell? ⟨w.heap.size, 2, none⟩ = some (.string s) := by rw [hB2.cell (by simp)]; simp
         have HO2 := Lib.hid hown')
      | (have h0 : OwnB (w.heap.size + 1) (w1.alloc (.cells #[bv 2] 5)) (.slice (some ⟨w1.heap.size, 0, none⟩) 1 1) [2] := OwnB.built' 2 _ rfl hz1
         refine step_appB (by rfl) _ _ (by rfl) (w.heap.size + 1) _ [2] _ _ _ (by rfl) h0 (by rfl) ((hrd.below ((Below.refl _ _).alloc (Nat.le_refl _) _)).mono (by simp)) HF.out ?_ ?_ ?_
         · simp only [List.length_singleton]; have := hd; simp only [numeral] at this; omega
         · first | omega | (simp; omega)
         intro v' w2 hown' hb2
         have hB2 : Below (w.heap.size + 1) (w.alloc (.cells #[.int .i64 2, .int .i64 n, .string s, .slice a kids.len cap] 100)) w2 := (hB1.alloc hz1 _).trans (hb2.below h0.base (by simp; omega))
         have hc2 : w2.cell? ⟨w.heap.size, 2, none⟩ = some (.string s) := by rw [hB2.cell (by simp)]; simp
         have HO2 := Lib.hid hown')
      | (refine step_appS (by rfl) _ _ (by rfl) (w.heap.size + 1) _ _ s (by rfl) HO2.out (by rfl) ?_ ?_ ?_
         · have := hd; simp only [numeral] at this; simp only [List.length_append, List.length_singleton]; omega
         · have := hB2.size; simp at this; omega
         intro v'' w3 hown'' hb3
         have hB3 : Below (w.heap.size + 1) (w.alloc (.cells #[.int .i64 2, .int .i64 n, .string s, .slice a kids.len cap] 100)) w3 := hB2.trans (hb3.below HO2.out.base (by have := hB2.size; simp at this; omega))
         have hc3 : w3.cell? ⟨w.heap.size, 2, none⟩ = some (.string s) := by rw [hB3.cell (by simp)]; simp
         have HO3 := Lib.hid hown''))
  all_goals
    go_wp2
    go_ret
    exact ⟨_, rfl, by rw [venc2]; exact HO3.out.mono (by omega), below_start hB3⟩

set_option maxRecDepth 100000 in
set_option maxHeartbeats 400000 in
theorem refEncode (m : Nat) : ∀ (B : Nat) (k n : Int) (s : ByteArray) (a : Option Addr) (cap : Nat) (kids : VL) (w : World), kids.sz ≤ m → vsize k n s kids ≤ 1000000000000 → I64 k → I64 n → s.size ≤ maxLen → RepS B w a cap kids → B ≤ w.heap.size →
    Calls Tryz.prog 117 #[.agg #[.int .i64 k, .int .i64 n, .string s, .slice a kids.len cap]] w fun e w' => ∃ v, e = .returned v ∧ OwnB w.heap.size w' v (venc k n s kids) ∧ Below w.heap.size w w' := by
  induction m with
  | zero => intro B k n s a cap kids w hm; have := kids.sz_pos; omega
  | succ m ih =>
  intro B k n s a cap kids w hm hv hk hn hs hr hB
  by_cases h1 : k = 1
  · subst h1
    exact refEncode1 n s a cap kids w hn
  by_cases h2 : k = 2
  · subst h2
    refine refEncode2 n s a cap kids w hn ?_
    simp [vsize] at hv; omega
  have hvs : vsize k n s kids = 1 + ndig kids.len + kids.size := by simp [vsize, h1, h2]
  have HE : Hid (venc k n s kids = [3] ++ numeral kids.len ++ kids.enc) := venc3 h1 h2 n s kids
  have hd := ndig_le kids.len
  rw [← numeral_length] at hd
  have hl := hr.1
  obtain ⟨b, o, hf, HA⟩ := hr.at
  clear hr
  unfold maxLen at hl
  have hsz : kids.size ≤ 1000000000000 := by omega
  clear hv hvs
  have HP : Hid (kids.len < 128 ^ (9 + 1)) := by show _ < _; omega
  have g1 : (k == 1) = false := by simpa using h1
  have g2 : (k == 2) = false := by simpa using h2
  go_enter Tryz.func117, Tryz.ntmps117
  go_wp2_with fail
  refine (refNumeral 9 kids.len _ (by omega) HP.out (by omega)).mono ?_
  rintro e w1 ⟨v, rfl, hown, hb⟩
  obtain ⟨a', cap', rfl, hfm, hrd⟩ := hown.form
  have HF : Hid (a' = none → cap' = 0) := by
    show _ → _
    intro h; rcases hfm with h1 | ⟨g, h1, _⟩ <;> simp_all
  clear hfm
  have hB1 : Below (w.heap.size + 1) (w.alloc (.cells #[.int .i64 k, .int .i64 n, .string s, .slice a kids.len cap] 100)) w1 := ((Below.refl _ _).alloc (by simp) _).trans (hb.mono (by simp))
  have hz1 : w.heap.size + 2 ≤ w1.heap.size := by simpa using hb.size
  have h0 : OwnB (w.heap.size + 1) w1 (.slice (some ⟨w.heap.size + 1, 0, none⟩) 1 1) [3] :=
    (OwnB.built' (w := w.alloc (.cells #[.int .i64 k, .int .i64 n, .string s, .slice a kids.len cap] 100)) 3 (w.heap.size + 1) (by simp) (by simp)).below hb
  go_wp2_with (at_builtin; refine wpList_appB rfl _ _ rfl (w.heap.size + 1) _ _ _ _ _ rfl h0 rfl hrd HF.out ?c2 ?c3 ?_)
  case c2 => have := hd; simp only [numeral] at this; simp only [List.length_singleton]; omega
  case c3 => omega
  intro v' w2 hown' hb2
  have hB2 := hB1.trans (hb2.below h0.base (by omega))
  clear hb2 hB1 hrd h0 hb hown hz1
  obtain ⟨tot, HT⟩ : ∃ t, Hid (t = [3] ++ numeral kids.len ++ kids.enc) := ⟨_, Lib.hid rfl⟩
  have htl : tot.length ≤ 2000000000000 := by have := HT.out; rw [this]; simp only [List.length_append, List.length_singleton, VL.enc_length]; omega
  have HH : Hid (OwnB (w.heap.size + 1) w2 v' ([3] ++ numeral kids.len)) := hown'
  clear hown'
  go_wp2
  go_loopw [4, 3] (fun i x wr => ∃ (j : Nat) (l : List UInt8) (r : VL), i = .int .i64 j ∧ OwnB (w.heap.size + 1) wr x l ∧ j + r.len = kids.len ∧ r.sz ≤ m + 1 ∧ RepL B wr b (o + j * 4) r ∧ Hid (l ++ r.enc = tot) ∧ r.size ≤ 1000000000000 ∧ Below (w.heap.size + 1) (w.alloc (.cells #[.int .i64 k, .int .i64 n, .string s, .slice a kids.len cap] 100)) wr) (fun i _ _ => kids.len - (intOf i).toNat)
  case atStart => exact ⟨0, _, kids, rfl, HH.out, by omega, hm, by simpa using hf.below (((Below.refl _ _).alloc hB _).trans (hB2.mono (by omega))) _ _ _, HT.out.symm, hsz, hB2⟩
  case round =>
    obtain ⟨j, l, r, rfl, hownL, hj, hm', hr, HW, hrs, hbr⟩ := hrel
    have hll : l.length ≤ 2000000000000 := by have := congrArg List.length HW.out; rw [List.length_append] at this; omega
    have c3 : wr.cell? ⟨w.heap.size, 3, none⟩ = some (.slice a kids.len cap) := by rw [hbr.cell (by simp)]; simp
    cases r with
    | nil =>
      have : j = kids.len := by simpa [VL.len] using hj
      have HO := Lib.hid hownL
      clear hownL
      go_wp2
      go_ret
      have h1 := HW.out
      rw [show VL.nil.enc = [] from rfl, List.append_nil] at h1
      exact ⟨_, rfl, by rw [HE.out, ← HT.out, ← h1]; exact HO.out.mono (by omega), below_start hbr⟩
    | cons k' n' s' kids' r' =>
      rw [VL.size_cons] at hrs
      simp only [VL.len] at hj
      have hlt : j < kids.len := by omega
      have ha : a = some ⟨b, o, none⟩ := by
        rcases HA.out with h | h
        · rw [h] at hlt; simp [VL.len] at hlt
        · exact h
      subst ha
      obtain ⟨q0, q1, q2, q3, q4, q5, q6, ⟨a', cap', q7, q8⟩, q9⟩ := hr
      simp only [VL.sz] at hm'
      have := kids'.sz_pos
      have := r'.sz_pos
      have hBw : w.heap.size + 1 ≤ wr.heap.size := by simpa using hbr.size
      have hBr : B ≤ wr.heap.size := by omega
      have HS : RepS B wr a' cap' kids' := q8
      have HM : Hid (RepL B wr b (o + j * 4 + 4) r') := q9
      have hvl := venc_length k' n' s' kids'
      have hvn : vsize k' n' s' kids' ≤ 1000000000000 := by omega
      clear q8 q9
      have HO := Lib.hid hownL
      clear hownL hvl
      go_wp2_with fail
      refine (ih B k' n' s' a' cap' kids' _ (by omega) hvn q1 q2 q3 HS hBr).mono ?_
      rintro e w1 ⟨v2, rfl, hown2, hb1⟩
      obtain ⟨a2, cap2, rfl, hfm2, hrd2⟩ := hown2.form
      have HF2 : Hid (a2 = none → cap2 = 0) := by
        show _ → _
        intro h; rcases hfm2 with h1 | ⟨g, h1, _⟩ <;> simp_all
      clear hfm2
      have h1 : OwnB (w.heap.size + 1) w1 _ l := HO.out.below hb1
      have hz1 : wr.heap.size ≤ w1.heap.size := hb1.size
      go_wp2_with (at_builtin; refine wpList_appB rfl _ _ rfl (w.heap.size + 1) _ _ _ _ _ rfl h1 rfl hrd2 HF2.out ?c2 ?c3 ?_)
      case c2 => rw [venc_length]; omega
      case c3 => omega
      intro v3 w3 hown3 hb3
      have hb3 := hb3.below h1.base (by omega)
      have HO3 := Lib.hid hown3
      clear hown3 h1 hown2
      go_wp2
      have hB13 : Below (w.heap.size + 1) wr w3 := (hb1.mono hBw).trans hb3
      go_roundw
      case rel =>
        refine ⟨j + 1, l ++ venc k' n' s' kids', r', by go_num, HO3.out, by omega, by omega, ?_, ?_, by omega, hbr.trans hB13⟩
        · have := HM.out.below (hB13.mono (by omega))
          rw [show o + (j + 1) * 4 = o + j * 4 + 4 from by omega]; exact this
        · show _ = _
          have := HW.out
          rw [VL.enc_cons] at this
          rw [List.append_assoc]; exact this
      case measure => simp [intOf]; omega
end Go.Proofs.YteigldfdaciopaaGreatDoor

namespace Go.Proofs.YteigldfdaciopaaGreatDoor
open Go.RowKit

set_option maxHeartbeats 400000 in
theorem writers_any (w : World) :
    Calls Tryz.prog 127 #[] w fun e w' => e = .returned (.agg #[.nilFunc, .func (.func 139) #[] #[], .func (.func 140) #[] #[], .func (.func 141) #[] #[]]) ∧ Below w.heap.size w w' := by
  go_enter Tryz.func127, Tryz.ntmps127
  go_wp2
  refine bodyPost_ret (v := .agg #[.nilFunc, .func (.func 139) #[] #[], .func (.func 140) #[] #[], .func (.func 141) #[] #[]]) (by simp [results, Tryz.results127, go_sem]) rfl ⟨rfl, ?_⟩
  exact (Below.refl _ _).alloc (Nat.le_refl _) _

set_option maxRecDepth 100000 in
set_option maxHeartbeats 400000 in
theorem writeInt_any (B : Nat) (k n : Int) (s : ByteArray) (a : Option Addr) (cap len : Nat) (v : Value) (l : List UInt8) (w : World) (hn : I64 n) (hown : OwnB B w v l) (hl : l.length ≤ 10000000000000) (hB : B ≤ w.heap.size) :
    Calls Tryz.prog 139 #[v, .agg #[.int .i64 k, .int .i64 n, .string s, .slice a len cap]] w fun e w' => ∃ v', e = .returned v' ∧ OwnB B w' v' (l ++ numeral (zig n)) ∧ Grew w v w' v' := by
  have hzl := zig_le hn
  have HO := Lib.hid hown
  clear hown
  go_enter Tryz.func139, Tryz.ntmps139
  go_wp2_with (go_at_call 138; refine (codecUnsigned n hn _).mono ?_; rintro e w' ⟨rfl, rfl⟩)
  refine (appendNumeral_any B (zig n) v l _ (by omega) (HO.out.alloc _) hl (by simp; omega)).mono ?_
  rintro e w1 ⟨v', rfl, hown', hg⟩
  have HO' := Lib.hid hown'
  clear hown'
  go_wp2
  go_ret
  exact ⟨_, rfl, HO'.out, ((Grew.refl w v).alloc _).trans hg⟩

set_option maxRecDepth 100000 in
set_option maxHeartbeats 400000 in
theorem writeText_any (B : Nat) (k n : Int) (s : ByteArray) (a : Option Addr) (cap len : Nat) (v : Value) (l : List UInt8) (w : World) (hs : s.size ≤ 1000000000000) (hown : OwnB B w v l) (hl : l.length ≤ 10000000000000) (hB : B ≤ w.heap.size) :
    Calls Tryz.prog 140 #[v, .agg #[.int .i64 k, .int .i64 n, .string s, .slice a len cap]] w fun e w' => ∃ v', e = .returned v' ∧ OwnB B w' v' (l ++ numeral s.size ++ s.data.toList) ∧ Grew w v w' v' := by
  have hd := ndig_le s.size
  rw [← numeral_length] at hd
  have HO := Lib.hid hown
  have HN := Lib.hid hown.ne_new
  clear hown
  have hwr : IntKind.u64.wrap (s.size : Int) = (s.size : Int) := by rw [IntKind.wrap_u64]; omega
  have hsl : s.size ≤ 18446744073709551615 := by omega
  go_enter Tryz.func140, Tryz.ntmps140
  go_wp2_with fail
  go_region_held3 (fun w' => w'.cell? ⟨w.heap.size, 2, none⟩ = some (.string s) ∧ True)
    (first
      | exact ⟨hc2, trivial⟩
      | exact ⟨hc1, trivial⟩
      | exact ⟨by simp, trivial⟩)
    (first
      | (go_at_call 144
         refine (appendNumeral_any B s.size v l _ hsl (HO.out.alloc _).drew hl (le_alloc_drew hB _)).mono ?_
         rintro e w1 ⟨v', rfl, hown', hg⟩
         have hc1 : w1.cell? ⟨w.heap.size, 2, none⟩ = some (.string s) := by rw [hg.cell (lt_alloc_drew _ _) HN.out]; simp
         have hlt : w.heap.size < w1.heap.size := Nat.lt_of_lt_of_le (lt_alloc_drew _ _) hg.size
         have hsz1 : B ≤ w1.heap.size := by omega
         have hne := hg.ne HN.out (lt_alloc_drew _ _)
         have HO' := Lib.hid hown'
         have HG := Lib.hid (((Grew.refl w v).alloc _).drew.trans hg))
      | (refine step_appS (by rfl) _ _ (by rfl) B _ _ s (by rfl) HO'.out (by rfl) ?_ ?_ ?_
         · simp only [List.length_append]; omega
         · exact hsz1
         intro v'' w2 hown'' hg2
         have hc2 : w2.cell? ⟨w.heap.size, 2, none⟩ = some (.string s) := by
           rw [hg2.cell hlt hne]
           exact hc1
         have HO'' := Lib.hid hown''
         have HG2 := Lib.hid (HG.out.trans hg2)))
  go_wp2
  go_ret
  exact ⟨_, rfl, HO''.out, HG2.out⟩

/-- What write does to a value: the contract, as a statement on one size of values. -/
def WriteSaid (m : Nat) : Prop := ∀ (B : Nat) (k n : Int) (s : ByteArray) (a : Option Addr) (cap : Nat) (kids : VL) (v : Value) (l : List UInt8) (w : World), kids.sz ≤ m → (k = 1 ∨ k = 2 ∨ k = 3) → kids.wf = true → vsize k n s kids ≤ 1000000000000 → I64 n → s.size ≤ maxLen → RepS B w a cap kids → OwnB B w v l → l.length + vsize k n s kids ≤ 2000000000010 → B ≤ w.heap.size →
    Calls Tryz.prog 111 #[v, .agg #[.int .i64 k, .int .i64 n, .string s, .slice a kids.len cap]] w fun e w' => ∃ v', e = .returned v' ∧ OwnB B w' v' (l ++ venc k n s kids) ∧ Grew w v w' v'

set_option maxRecDepth 100000 in
set_option maxHeartbeats 400000 in
theorem writeList_any (m : Nat) (ih : WriteSaid m) (B : Nat) (k n : Int) (s : ByteArray) (a : Option Addr) (cap : Nat) (kids : VL) (v : Value) (l : List UInt8) (w : World) (hm : kids.sz ≤ m + 1) (hwf : kids.wf = true) (hsz : kids.size ≤ 1000000000000) (hr : RepS B w a cap kids) (hown : OwnB B w v l) (hl : l.length + ndig kids.len + kids.size ≤ 2000000000010) (hB : B ≤ w.heap.size) :
    Calls Tryz.prog 141 #[v, .agg #[.int .i64 k, .int .i64 n, .string s, .slice a kids.len cap]] w fun e w' => ∃ v', e = .returned v' ∧ OwnB B w' v' (l ++ numeral kids.len ++ kids.enc) ∧ Grew w v w' v' := by
  have hll := hr.1
  obtain ⟨b, o, hf, HA⟩ := hr.at
  clear hr
  unfold maxLen at hll
  have hlk : kids.len ≤ 1000000000000 := by
    have : ∀ f : VL, f.len ≤ f.size := by
      intro f; induction f with
      | nil => simp [VL.len]
      | cons k n s kids r _ h => rw [VL.size_cons]; simp only [VL.len, vsize]; split <;> (try split) <;> omega
    have := this kids; omega
  have HO := Lib.hid hown
  have HN := Lib.hid hown.ne_new
  clear hown
  obtain ⟨tot, HT⟩ : ∃ t, Hid (t = l ++ numeral kids.len ++ kids.enc) := ⟨l ++ numeral kids.len ++ kids.enc, Lib.hid rfl⟩
  have htl : tot.length ≤ 2000000000010 := by have := HT.out; rw [this]; simp only [List.length_append, VL.enc_length, numeral_length]; omega
  go_enter Tryz.func141, Tryz.ntmps141
  go_wp2_with fail
  refine (appendNumeral_any B kids.len v l _ (by omega) (HO.out.alloc _) (by omega) (by simp; omega)).mono ?_
  rintro e w1 ⟨v1, rfl, hown1, hg1⟩
  have HG : Hid (Grew w v w1 v1) := ((Grew.refl w v).alloc _).trans hg1
  have c3 : w1.cell? ⟨w.heap.size, 3, none⟩ = some (.slice a kids.len cap) := by rw [hg1.cell (by simp) HN.out]; simp
  have HO1 := Lib.hid hown1
  have hb1 : Below B w w1 := HG.out.below HO.out.base hB
  clear hown1 hg1
  go_wp2_with fail
  go_loopw [16, 0] (fun i x wr => ∃ (j : Nat) (l' : List UInt8) (r : VL), i = .int .i64 j ∧ OwnB B wr x l' ∧ j + r.len = kids.len ∧ r.sz ≤ m + 1 ∧ r.wf = true ∧ RepL B wr b (o + j * 4) r ∧ Hid (l' ++ r.enc = tot) ∧ r.size ≤ 1000000000000 ∧ Grew w v wr x) (fun i _ _ => kids.len - (intOf i).toNat)
  case atStart => exact ⟨0, _, kids, rfl, HO1.out, by omega, hm, hwf, by simpa using hf.below hb1 _ _ _, HT.out.symm, hsz, HG.out⟩
  case round =>
    obtain ⟨j, l', r, rfl, hown, hj, hm', hwr, hr, HW, hrs, hg⟩ := hrel
    have hll : l'.length + r.size ≤ 2000000000010 := by have := congrArg List.length HW.out; rw [List.length_append, VL.enc_length] at this; omega
    cases r with
    | nil =>
      have : j = kids.len := by simpa [VL.len] using hj
      have HO2 := Lib.hid hown
      have HG2 := Lib.hid hg
      clear hown hg
      go_wp2
      go_ret
      have h1 := HW.out
      rw [show VL.nil.enc = [] from rfl, List.append_nil] at h1
      exact ⟨_, rfl, by rw [← HT.out, ← h1]; exact HO2.out, HG2.out⟩
    | cons k' n' s' kids' r' =>
      rw [VL.size_cons] at hrs hll
      rw [VL.wf_cons, Bool.and_eq_true] at hwr
      have hk' : k' = 1 ∨ k' = 2 ∨ k' = 3 := by
        by_cases h1 : k' = 1
        · exact .inl h1
        · by_cases h2 : k' = 2
          · exact .inr (.inl h2)
          · by_cases h3 : k' = 3
            · exact .inr (.inr h3)
            · have := hwr.1; simp [vwf, h1, h2, h3] at this
      have hkw : kids'.wf = true := by
        have h := hwr.1
        rcases hk' with rfl | rfl | rfl
        · simp [vwf] at h; cases kids' <;> simp_all [VL.isNil, VL.wf]
        · simp [vwf] at h; cases kids' <;> simp_all [VL.isNil, VL.wf]
        · simp [vwf] at h; exact h.1
      simp only [VL.len] at hj
      have hlt : j < kids.len := by omega
      have ha : a = some ⟨b, o, none⟩ := by
        rcases HA.out with h | h
        · rw [h] at hlt; simp [VL.len] at hlt
        · exact h
      subst ha
      obtain ⟨q0, q1, q2, q3, q4, q5, q6, ⟨a', cap', q7, q8⟩, q9⟩ := hr
      simp only [VL.sz] at hm'
      have := kids'.sz_pos
      have := r'.sz_pos
      have hBr : B ≤ wr.heap.size := by have := hg.size; omega
      have HS : RepS B wr a' cap' kids' := q8
      have HM : Hid (RepL B wr b (o + j * 4 + 4) r') := q9
      have hvn : vsize k' n' s' kids' ≤ 1000000000000 := by omega
      have HL : Hid (l'.length + vsize k' n' s' kids' ≤ 2000000000010) := by show _ ≤ _; omega
      have HK := Lib.hid hk'
      have HR := Lib.hid hwr.2
      have HO2 := Lib.hid hown
      have HG2 := Lib.hid hg
      clear q8 q9 hk' hwr hown hg
      go_wp2_with fail
      refine (ih B k' n' s' a' cap' kids' _ l' _ (by omega) HK.out hkw hvn q2 q3 (HS.below ((Below.refl _ _).alloc hBr _)) (HO2.out.alloc _) HL.out (by simp; omega)).mono ?_
      rintro e w2 ⟨v2, rfl, hown2, hg2⟩
      have HO3 := Lib.hid hown2
      have HG3 : Hid (Grew w v w2 v2) := (HG2.out.alloc _).trans hg2
      have hb2 : Below B wr w2 := ((Below.refl _ _).alloc hBr _).trans (hg2.below HO2.out.base (by simp; omega))
      clear hown2 hg2
      go_wp2
      go_roundw
      case rel =>
        refine ⟨j + 1, l' ++ venc k' n' s' kids', r', by go_num, HO3.out, by omega, by omega, HR.out, ?_, ?_, by omega, HG3.out⟩
        · have := HM.out.below hb2
          rw [show o + (j + 1) * 4 = o + j * 4 + 4 from by omega]; exact this
        · show _ = _
          have := HW.out
          rw [VL.enc_cons] at this
          rw [List.append_assoc]; exact this
      case measure => simp [intOf]; omega

set_option maxRecDepth 100000 in
set_option maxHeartbeats 800000 in
theorem write1 (B : Nat) (n : Int) (s : ByteArray) (a : Option Addr) (cap : Nat) (kids : VL) (v : Value) (l : List UInt8) (w : World) (hown : OwnB B w v l) (hl : l.length ≤ 2000000000010) (hB : B ≤ w.heap.size) (out : List UInt8)
    (hc : ∀ (v' : Value) (w' : World), OwnB B w' v' (l ++ [1]) → Below B w w' → Calls Tryz.prog 139 #[v', .agg #[.int .i64 1, .int .i64 n, .string s, .slice a kids.len cap]] w' fun e w'' => ∃ v'', e = .returned v'' ∧ OwnB B w'' v'' out ∧ Grew w' v' w'' v'') :
    Calls Tryz.prog 111 #[v, .agg #[.int .i64 1, .int .i64 n, .string s, .slice a kids.len cap]] w fun e w' => ∃ v', e = .returned v' ∧ OwnB B w' v' out ∧ Grew w v w' v' := by
  have HO := Lib.hid hown
  have HN := Lib.hid hown.ne_new
  have HC := Lib.hid hc
  clear hown hc
  have hix : ∀ w, (Instr.index 133 (.agg #[.nilFunc, .func (.func 139) #[] #[], .func (.func 140) #[] #[], .func (.func 141) #[] #[]]) (.int .i64 1)).run Tryz.prog w = .ok (.func (.func 139) #[] #[]) w := fun _ => by kernel_rfl
  go_enter Tryz.func111, Tryz.ntmps111
  go_wp2_with fail
  go_region_held3 (fun w' => w'.cell? ⟨w.heap.size, 0, none⟩ = some (.int .i64 1) ∧ w'.cell? ⟨w.heap.size, 1, none⟩ = some (.int .i64 n) ∧ w'.cell? ⟨w.heap.size, 2, none⟩ = some (.string s) ∧ w'.cell? ⟨w.heap.size, 3, none⟩ = some (.slice a kids.len cap))
    (first
      | exact hq3
      | exact hq2
      | exact box4 (hb0.alloc hz0 _)
      | exact box4 hb0
      | exact ⟨by simp, by simp, by simp, by simp⟩)
    (first
      | (go_at_call 127
         refine (writers_any _).mono ?_
         rintro e w1 ⟨rfl, hb1⟩
         first
           | (have hO1 := Lib.hid (OwnB.below ((HO.out.alloc _).drew) hb1)
              have hb0 := Below.trans (((Below.refl (w.heap.size + 1) (w.alloc (.cells #[.int .i64 1, .int .i64 n, .string s, .slice a kids.len cap] 100))).drew)) (hb1.mono (by simp)))
           | (have hO1 := Lib.hid (OwnB.below (((HO.out.alloc _).alloc _).drew) hb1)
              have hb0 := Below.trans ((((Below.refl (w.heap.size + 1) (w.alloc (.cells #[.int .i64 1, .int .i64 n, .string s, .slice a kids.len cap] 100))).alloc (by simp) _).drew)) (hb1.mono (by simp)))
         have hz0 : w.heap.size + 1 ≤ w1.heap.size := by simpa using hb0.size)
      | (have hcell : w1.cell? ⟨w.heap.size + 1, 0, none⟩ = some (bv 1) := by rw [hb1.cell (by simp)]; simp; rfl
         refine step_appB (by rfl) _ _ (by rfl) B _ l [1] _ _ (by rfl) hO1.out (by rfl) (RdB.one hcell) (fun h => by cases h) ?_ ?_ ?_
         · simp only [List.length_singleton]; omega
         · omega
         intro v2 w2 hown2 hg2
         have hq2 := box4_grew hg2 hz0 HN.out (box4 hb0)
         have hz2 := Nat.le_trans hz0 hg2.size
         have hn2 := hg2.ne HN.out hz0
         have HO2 := Lib.hid hown2
         have HG2 := Lib.hid ((Grew.of_below v (below_start hb0)).trans hg2))
      | (have hcell : (w1.alloc (.cells #[.int .u8 1] 5)).cell? ⟨w1.heap.size, 0, none⟩ = some (bv 1) := by simp; rfl
         refine step_appB (by rfl) _ _ (by rfl) B _ l [1] _ _ (by rfl) (hO1.out.alloc _) (by rfl) (RdB.one hcell) (fun h => by cases h) ?_ ?_ ?_
         · simp only [List.length_singleton]; omega
         · simp; omega
         intro v2 w2 hown2 hg2
         have hq2 := box4_grew hg2 (Nat.lt_of_lt_of_le hz0 (Nat.le_of_lt (lt_alloc _ _))) HN.out (box4 (hb0.alloc hz0 _))
         have hz2 := Nat.le_trans (Nat.le_trans hz0 (Nat.le_of_lt (lt_alloc _ _))) hg2.size
         have hn2 := hg2.ne HN.out (Nat.lt_of_lt_of_le hz0 (Nat.le_of_lt (lt_alloc _ _)))
         have HO2 := Lib.hid hown2
         have HG2 := Lib.hid (((Grew.of_below v (below_start hb0)).alloc _).trans hg2))
      | (go_at_call 139
         refine (HC.out _ _ HO2.out (HG2.out.below HO.out.base hB)).mono ?_
         rintro e w3 ⟨v3, rfl, hown3, hg3⟩
         have hq3 := box4_grew hg3 hz2 hn2 hq2
         have HO3 := Lib.hid hown3
         have HG3 := Lib.hid (HG2.out.trans hg3)))
  all_goals
    go_wp2
    go_ret
    exact ⟨_, rfl, HO3.out, HG3.out⟩

set_option maxRecDepth 100000 in
set_option maxHeartbeats 800000 in
theorem write2 (B : Nat) (n : Int) (s : ByteArray) (a : Option Addr) (cap : Nat) (kids : VL) (v : Value) (l : List UInt8) (w : World) (hown : OwnB B w v l) (hl : l.length ≤ 2000000000010) (hB : B ≤ w.heap.size) (out : List UInt8)
    (hc : ∀ (v' : Value) (w' : World), OwnB B w' v' (l ++ [2]) → Below B w w' → Calls Tryz.prog 140 #[v', .agg #[.int .i64 2, .int .i64 n, .string s, .slice a kids.len cap]] w' fun e w'' => ∃ v'', e = .returned v'' ∧ OwnB B w'' v'' out ∧ Grew w' v' w'' v'') :
    Calls Tryz.prog 111 #[v, .agg #[.int .i64 2, .int .i64 n, .string s, .slice a kids.len cap]] w fun e w' => ∃ v', e = .returned v' ∧ OwnB B w' v' out ∧ Grew w v w' v' := by
  have HO := Lib.hid hown
  have HN := Lib.hid hown.ne_new
  have HC := Lib.hid hc
  clear hown hc
  have hix : ∀ w, (Instr.index 133 (.agg #[.nilFunc, .func (.func 139) #[] #[], .func (.func 140) #[] #[], .func (.func 141) #[] #[]]) (.int .i64 2)).run Tryz.prog w = .ok (.func (.func 140) #[] #[]) w := fun _ => by kernel_rfl
  go_enter Tryz.func111, Tryz.ntmps111
  go_wp2_with fail
  go_region_held3 (fun w' => w'.cell? ⟨w.heap.size, 0, none⟩ = some (.int .i64 2) ∧ w'.cell? ⟨w.heap.size, 1, none⟩ = some (.int .i64 n) ∧ w'.cell? ⟨w.heap.size, 2, none⟩ = some (.string s) ∧ w'.cell? ⟨w.heap.size, 3, none⟩ = some (.slice a kids.len cap))
    (first
      | exact hq3
      | exact hq2
      | exact box4 (hb0.alloc hz0 _)
      | exact box4 hb0
      | exact ⟨by simp, by simp, by simp, by simp⟩)
    (first
      | (go_at_call 127
         refine (writers_any _).mono ?_
         rintro e w1 ⟨rfl, hb1⟩
         first
           | (have hO1 := Lib.hid (OwnB.below ((HO.out.alloc _).drew) hb1)
              have hb0 := Below.trans (((Below.refl (w.heap.size + 1) (w.alloc (.cells #[.int .i64 2, .int .i64 n, .string s, .slice a kids.len cap] 100))).drew)) (hb1.mono (by simp)))
           | (have hO1 := Lib.hid (OwnB.below (((HO.out.alloc _).alloc _).drew) hb1)
              have hb0 := Below.trans ((((Below.refl (w.heap.size + 1) (w.alloc (.cells #[.int .i64 2, .int .i64 n, .string s, .slice a kids.len cap] 100))).alloc (by simp) _).drew)) (hb1.mono (by simp)))
         have hz0 : w.heap.size + 1 ≤ w1.heap.size := by simpa using hb0.size)
      | (have hcell : w1.cell? ⟨w.heap.size + 1, 0, none⟩ = some (bv 2) := by rw [hb1.cell (by simp)]; simp; rfl
         refine step_appB (by rfl) _ _ (by rfl) B _ l [2] _ _ (by rfl) hO1.out (by rfl) (RdB.one hcell) (fun h => by cases h) ?_ ?_ ?_
         · simp only [List.length_singleton]; omega
         · omega
         intro v2 w2 hown2 hg2
         have hq2 := box4_grew hg2 hz0 HN.out (box4 hb0)
         have hz2 := Nat.le_trans hz0 hg2.size
         have hn2 := hg2.ne HN.out hz0
         have HO2 := Lib.hid hown2
         have HG2 := Lib.hid ((Grew.of_below v (below_start hb0)).trans hg2))
      | (have hcell : (w1.alloc (.cells #[.int .u8 2] 5)).cell? ⟨w1.heap.size, 0, none⟩ = some (bv 2) := by simp; rfl
         refine step_appB (by rfl) _ _ (by rfl) B _ l [2] _ _ (by rfl) (hO1.out.alloc _) (by rfl) (RdB.one hcell) (fun h => by cases h) ?_ ?_ ?_
         · simp only [List.length_singleton]; omega
         · simp; omega
         intro v2 w2 hown2 hg2
         have hq2 := box4_grew hg2 (Nat.lt_of_lt_of_le hz0 (Nat.le_of_lt (lt_alloc _ _))) HN.out (box4 (hb0.alloc hz0 _))
         have hz2 := Nat.le_trans (Nat.le_trans hz0 (Nat.le_of_lt (lt_alloc _ _))) hg2.size
         have hn2 := hg2.ne HN.out (Nat.lt_of_lt_of_le hz0 (Nat.le_of_lt (lt_alloc _ _)))
         have HO2 := Lib.hid hown2
         have HG2 := Lib.hid (((Grew.of_below v (below_start hb0)).alloc _).trans hg2))
      | (go_at_call 140
         refine (HC.out _ _ HO2.out (HG2.out.below HO.out.base hB)).mono ?_
         rintro e w3 ⟨v3, rfl, hown3, hg3⟩
         have hq3 := box4_grew hg3 hz2 hn2 hq2
         have HO3 := Lib.hid hown3
         have HG3 := Lib.hid (HG2.out.trans hg3)))
  all_goals
    go_wp2
    go_ret
    exact ⟨_, rfl, HO3.out, HG3.out⟩

set_option maxRecDepth 100000 in
set_option maxHeartbeats 800000 in
theorem write3 (B : Nat) (n : Int) (s : ByteArray) (a : Option Addr) (cap : Nat) (kids : VL) (v : Value) (l : List UInt8) (w : World) (hown : OwnB B w v l) (hl : l.length ≤ 2000000000010) (hB : B ≤ w.heap.size) (out : List UInt8)
    (hc : ∀ (v' : Value) (w' : World), OwnB B w' v' (l ++ [3]) → Below B w w' → Calls Tryz.prog 141 #[v', .agg #[.int .i64 3, .int .i64 n, .string s, .slice a kids.len cap]] w' fun e w'' => ∃ v'', e = .returned v'' ∧ OwnB B w'' v'' out ∧ Grew w' v' w'' v'') :
    Calls Tryz.prog 111 #[v, .agg #[.int .i64 3, .int .i64 n, .string s, .slice a kids.len cap]] w fun e w' => ∃ v', e = .returned v' ∧ OwnB B w' v' out ∧ Grew w v w' v' := by
  have HO := Lib.hid hown
  have HN := Lib.hid hown.ne_new
  have HC := Lib.hid hc
  clear hown hc
  have hix : ∀ w, (Instr.index 133 (.agg #[.nilFunc, .func (.func 139) #[] #[], .func (.func 140) #[] #[], .func (.func 141) #[] #[]]) (.int .i64 3)).run Tryz.prog w = .ok (.func (.func 141) #[] #[]) w := fun _ => by kernel_rfl
  go_enter Tryz.func111, Tryz.ntmps111
  go_wp2_with fail
  go_region_held3 (fun w' => w'.cell? ⟨w.heap.size, 0, none⟩ = some (.int .i64 3) ∧ w'.cell? ⟨w.heap.size, 1, none⟩ = some (.int .i64 n) ∧ w'.cell? ⟨w.heap.size, 2, none⟩ = some (.string s) ∧ w'.cell? ⟨w.heap.size, 3, none⟩ = some (.slice a kids.len cap))
    (first
      | exact hq3
      | exact hq2
      | exact box4 (hb0.alloc hz0 _)
      | exact box4 hb0
      | exact ⟨by simp, by simp, by simp, by simp⟩)
    (first
      | (go_at_call 127
         refine (writers_any _).mono ?_
         rintro e w1 ⟨rfl, hb1⟩
         first
           | (have hO1 := Lib.hid (OwnB.below ((HO.out.alloc _).drew) hb1)
              have hb0 := Below.trans (((Below.refl (w.heap.size + 1) (w.alloc (.cells #[.int .i64 3, .int .i64 n, .string s, .slice a kids.len cap] 100))).drew)) (hb1.mono (by simp)))
           | (have hO1 := Lib.hid (OwnB.below (((HO.out.alloc _).alloc _).drew) hb1)
              have hb0 := Below.trans ((((Below.refl (w.heap.size + 1) (w.alloc (.cells #[.int .i64 3, .int .i64 n, .string s, .slice a kids.len cap] 100))).alloc (by simp) _).drew)) (hb1.mono (by simp)))
         have hz0 : w.heap.size + 1 ≤ w1.heap.size := by simpa using hb0.size)
      | (have hcell : w1.cell? ⟨w.heap.size + 1, 0, none⟩ = some (bv 3) := by rw [hb1.cell (by simp)]; simp; rfl
         refine step_appB (by rfl) _ _ (by rfl) B _ l [3] _ _ (by rfl) hO1.out (by rfl) (RdB.one hcell) (fun h => by cases h) ?_ ?_ ?_
         · simp only [List.length_singleton]; omega
         · omega
         intro v2 w2 hown2 hg2
         have hq2 := box4_grew hg2 hz0 HN.out (box4 hb0)
         have hz2 := Nat.le_trans hz0 hg2.size
         have hn2 := hg2.ne HN.out hz0
         have HO2 := Lib.hid hown2
         have HG2 := Lib.hid ((Grew.of_below v (below_start hb0)).trans hg2))
      | (have hcell : (w1.alloc (.cells #[.int .u8 3] 5)).cell? ⟨w1.heap.size, 0, none⟩ = some (bv 3) := by simp; rfl
         refine step_appB (by rfl) _ _ (by rfl) B _ l [3] _ _ (by rfl) (hO1.out.alloc _) (by rfl) (RdB.one hcell) (fun h => by cases h) ?_ ?_ ?_
         · simp only [List.length_singleton]; omega
         · simp; omega
         intro v2 w2 hown2 hg2
         have hq2 := box4_grew hg2 (Nat.lt_of_lt_of_le hz0 (Nat.le_of_lt (lt_alloc _ _))) HN.out (box4 (hb0.alloc hz0 _))
         have hz2 := Nat.le_trans (Nat.le_trans hz0 (Nat.le_of_lt (lt_alloc _ _))) hg2.size
         have hn2 := hg2.ne HN.out (Nat.lt_of_lt_of_le hz0 (Nat.le_of_lt (lt_alloc _ _)))
         have HO2 := Lib.hid hown2
         have HG2 := Lib.hid (((Grew.of_below v (below_start hb0)).alloc _).trans hg2))
      | (go_at_call 141
         refine (HC.out _ _ HO2.out (HG2.out.below HO.out.base hB)).mono ?_
         rintro e w3 ⟨v3, rfl, hown3, hg3⟩
         have hq3 := box4_grew hg3 hz2 hn2 hq2
         have HO3 := Lib.hid hown3
         have HG3 := Lib.hid (HG2.out.trans hg3)))
  all_goals
    go_wp2
    go_ret
    exact ⟨_, rfl, HO3.out, HG3.out⟩


/-- write appends the encoding. -/
theorem cwrite_any (m : Nat) : WriteSaid m := by
  induction m with
  | zero => intro B k n s a cap kids v l w hm; have := kids.sz_pos; omega
  | succ m ih =>
  intro B k n s a cap kids v l w hm hk hwf hv hn hs hr hown hl hB
  rcases hk with rfl | rfl | rfl
  · refine write1 B n s a cap kids v l w hown (by omega) hB _ fun v' w' h1 h2 => ?_
    refine (writeInt_any B 1 n s a cap kids.len v' _ w' hn h1 (by simp; omega) (by have := h2.size; omega)).mono ?_
    rintro e w'' ⟨v'', rfl, h3, h4⟩
    exact ⟨v'', rfl, by rw [show venc 1 n s kids = [1] ++ numeral (zig n) from rfl, ← List.append_assoc]; exact h3, h4⟩
  · have hs2 : s.size ≤ 1000000000000 := by simp [vsize] at hv; omega
    refine write2 B n s a cap kids v l w hown (by omega) hB _ fun v' w' h1 h2 => ?_
    refine (writeText_any B 2 n s a cap kids.len v' _ w' hs2 h1 (by simp; omega) (by have := h2.size; omega)).mono ?_
    rintro e w'' ⟨v'', rfl, h3, h4⟩
    exact ⟨v'', rfl, by rw [show venc 2 n s kids = [2] ++ (numeral s.size ++ s.data.toList) from rfl, ← List.append_assoc, ← List.append_assoc]; exact h3, h4⟩
  · have hv' : vsize 3 n s kids = 1 + ndig kids.len + kids.size := rfl
    refine write3 B n s a cap kids v l w hown (by omega) hB _ fun v' w' h1 h2 => ?_
    refine (writeList_any m ih B 3 n s a cap kids v' _ w' hm hwf (by omega) (hr.below h2) h1 (by simp; omega) (by have := h2.size; omega)).mono ?_
    rintro e w'' ⟨v'', rfl, h3, h4⟩
    exact ⟨v'', rfl, by rw [show venc 3 n s kids = [3] ++ (numeral kids.len ++ kids.enc) from rfl, ← List.append_assoc, ← List.append_assoc]; exact h3, h4⟩
end Go.Proofs.YteigldfdaciopaaGreatDoor

namespace Go.Proofs.YteigldfdaciopaaGreatDoor
open Go.RowKit

/-- What Check answers. -/
def vchk (k n : Int) (s : ByteArray) (kids : VL) : Int := if vwf k n s kids = true then (if 16 < vdepth k kids then 2 else 0) else 1
theorem vchk_bad {k n : Int} {s : ByteArray} {kids : VL} (h : vwf k n s kids = false) : vchk k n s kids = 1 := by simp [vchk, h]
theorem vchk_deep {k n : Int} {s : ByteArray} {kids : VL} (h : vwf k n s kids = true) (h2 : 16 < vdepth k kids) : vchk k n s kids = 2 := by simp [vchk, h, h2]
theorem vchk_ok {k n : Int} {s : ByteArray} {kids : VL} (h : vwf k n s kids = true) (h2 : ¬ 16 < vdepth k kids) : vchk k n s kids = 0 := by simp [vchk, h, h2]

set_option maxHeartbeats 400000 in
theorem check_any (B : Nat) (k n : Int) (s : ByteArray) (a : Option Addr) (cap : Nat) (kids : VL) (w : World) (hm : kids.sz ≤ 1000000000000) (hk : I64 k) (hn : I64 n) (hs : s.size ≤ maxLen) (hr : RepS B w a cap kids) (hB : B ≤ w.heap.size) :
    Calls Tryz.prog 125 #[.agg #[.int .i64 k, .int .i64 n, .string s, .slice a kids.len cap]] w fun e w' => e = .returned (.int .i64 (vchk k n s kids)) ∧ Below w.heap.size w w' := by
  have hr1 : RepS B (w.alloc (.cells #[.int .i64 k, .int .i64 n, .string s, .slice a kids.len cap] 100)) a cap kids := hr.below ((Below.refl _ _).alloc hB _)
  have hB1 : B ≤ (w.alloc (.cells #[.int .i64 k, .int .i64 n, .string s, .slice a kids.len cap] 100)).heap.size := le_alloc hB _
  have hdl : vdepth k kids ≤ 2000000000000 := by have := kids.depth_le; unfold vdepth; split <;> omega
  have HK := Lib.hid hk
  have HN := Lib.hid hn
  have HS := Lib.hid hs
  clear hk hn hs
  cases hw : vwf k n s kids with
  | false =>
    have HW := Lib.hid hw
    clear hw
    go_enter Tryz.func125, Tryz.ntmps125
    go_wp2_with fail
    refine (wf_any kids.sz B k n s a cap kids _ (Nat.le_refl _) HK.out HN.out HS.out hr1 hB1).mono ?_
    rw [HW.out]
    rintro e w1 ⟨rfl, hb⟩
    go_wp2_with fail
    go_ret
    exact ⟨by rw [vchk_bad HW.out]; rfl, below_start (hb.mono (by simp))⟩
  | true =>
    have HW := Lib.hid hw
    clear hw
    by_cases hd : 16 < vdepth k kids
    · go_enter Tryz.func125, Tryz.ntmps125
      go_wp2_with fail
      refine (wf_any kids.sz B k n s a cap kids _ (Nat.le_refl _) HK.out HN.out HS.out hr1 hB1).mono ?_
      rw [HW.out]
      rintro e w1 ⟨rfl, hb⟩
      have hb0 : Below (w.heap.size + 1) (w.alloc (.cells #[.int .i64 k, .int .i64 n, .string s, .slice a kids.len cap] 100)) w1 := hb.mono (by simp)
      have hz : B ≤ w1.heap.size := by have := hb0.size; simp at this; omega
      obtain ⟨c0, c1, c2, c3⟩ := box4 hb0
      go_wp2_with fail
      refine (depth_any kids.sz B k n s a cap kids _ (Nat.le_refl _) (by omega) HK.out HN.out HS.out (hr.below (((Below.refl _ _).alloc hB _).trans (hb0.mono (by omega)))) hz).mono ?_
      rintro e w2 ⟨rfl, hb2⟩
      go_wp2_with fail
      go_ret
      exact ⟨by rw [vchk_deep HW.out (by omega)]; rfl, below_start (hb0.trans (hb2.mono (by have := hb0.size; simpa using this)))⟩
    · go_enter Tryz.func125, Tryz.ntmps125
      go_wp2_with fail
      refine (wf_any kids.sz B k n s a cap kids _ (Nat.le_refl _) HK.out HN.out HS.out hr1 hB1).mono ?_
      rw [HW.out]
      rintro e w1 ⟨rfl, hb⟩
      have hb0 : Below (w.heap.size + 1) (w.alloc (.cells #[.int .i64 k, .int .i64 n, .string s, .slice a kids.len cap] 100)) w1 := hb.mono (by simp)
      have hz : B ≤ w1.heap.size := by have := hb0.size; simp at this; omega
      obtain ⟨c0, c1, c2, c3⟩ := box4 hb0
      go_wp2_with fail
      refine (depth_any kids.sz B k n s a cap kids _ (Nat.le_refl _) (by omega) HK.out HN.out HS.out (hr.below (((Below.refl _ _).alloc hB _).trans (hb0.mono (by omega)))) hz).mono ?_
      rintro e w2 ⟨rfl, hb2⟩
      go_wp2_with fail
      go_ret
      exact ⟨by rw [vchk_ok HW.out (by omega)]; rfl, below_start (hb0.trans (hb2.mono (by have := hb0.size; simpa using this)))⟩

set_option maxHeartbeats 400000 in
theorem refCheck_any (B : Nat) (k n : Int) (s : ByteArray) (a : Option Addr) (cap : Nat) (kids : VL) (w : World) (hm : kids.sz ≤ 1000000000000) (hk : I64 k) (hn : I64 n) (hs : s.size ≤ maxLen) (hr : RepS B w a cap kids) (hB : B ≤ w.heap.size) :
    Calls Tryz.prog 116 #[.agg #[.int .i64 k, .int .i64 n, .string s, .slice a kids.len cap]] w fun e w' => e = .returned (.int .i64 (vchk k n s kids)) ∧ Below w.heap.size w w' := by
  have hr1 : RepS B (w.alloc (.cells #[.int .i64 k, .int .i64 n, .string s, .slice a kids.len cap] 100)) a cap kids := hr.below ((Below.refl _ _).alloc hB _)
  have hB1 : B ≤ (w.alloc (.cells #[.int .i64 k, .int .i64 n, .string s, .slice a kids.len cap] 100)).heap.size := le_alloc hB _
  have hdl : vdepth k kids ≤ 2000000000000 := by have := kids.depth_le; unfold vdepth; split <;> omega
  have HK := Lib.hid hk
  have HN := Lib.hid hn
  have HS := Lib.hid hs
  clear hk hn hs
  cases hw : vwf k n s kids with
  | false =>
    have HW := Lib.hid hw
    clear hw
    go_enter Tryz.func116, Tryz.ntmps116
    go_wp2_with fail
    refine (formed_any kids.sz B k n s a cap kids _ (Nat.le_refl _) HK.out HN.out HS.out hr1 hB1).mono ?_
    rw [HW.out]
    rintro e w1 ⟨rfl, hb⟩
    go_wp2_with fail
    go_ret
    exact ⟨by rw [vchk_bad HW.out]; rfl, below_start (hb.mono (by simp))⟩
  | true =>
    have HW := Lib.hid hw
    clear hw
    by_cases hd : 16 < vdepth k kids
    · go_enter Tryz.func116, Tryz.ntmps116
      go_wp2_with fail
      refine (formed_any kids.sz B k n s a cap kids _ (Nat.le_refl _) HK.out HN.out HS.out hr1 hB1).mono ?_
      rw [HW.out]
      rintro e w1 ⟨rfl, hb⟩
      have hb0 : Below (w.heap.size + 1) (w.alloc (.cells #[.int .i64 k, .int .i64 n, .string s, .slice a kids.len cap] 100)) w1 := hb.mono (by simp)
      have hz : B ≤ w1.heap.size := by have := hb0.size; simp at this; omega
      obtain ⟨c0, c1, c2, c3⟩ := box4 hb0
      go_wp2_with fail
      refine (refDepth_any kids.sz B k n s a cap kids _ (Nat.le_refl _) (by omega) HK.out HN.out HS.out (hr.below (((Below.refl _ _).alloc hB _).trans (hb0.mono (by omega)))) hz).mono ?_
      rintro e w2 ⟨rfl, hb2⟩
      go_wp2_with fail
      go_ret
      exact ⟨by rw [vchk_deep HW.out (by omega)]; rfl, below_start (hb0.trans (hb2.mono (by have := hb0.size; simpa using this)))⟩
    · go_enter Tryz.func116, Tryz.ntmps116
      go_wp2_with fail
      refine (formed_any kids.sz B k n s a cap kids _ (Nat.le_refl _) HK.out HN.out HS.out hr1 hB1).mono ?_
      rw [HW.out]
      rintro e w1 ⟨rfl, hb⟩
      have hb0 : Below (w.heap.size + 1) (w.alloc (.cells #[.int .i64 k, .int .i64 n, .string s, .slice a kids.len cap] 100)) w1 := hb.mono (by simp)
      have hz : B ≤ w1.heap.size := by have := hb0.size; simp at this; omega
      obtain ⟨c0, c1, c2, c3⟩ := box4 hb0
      go_wp2_with fail
      refine (refDepth_any kids.sz B k n s a cap kids _ (Nat.le_refl _) (by omega) HK.out HN.out HS.out (hr.below (((Below.refl _ _).alloc hB _).trans (hb0.mono (by omega)))) hz).mono ?_
      rintro e w2 ⟨rfl, hb2⟩
      go_wp2_with fail
      go_ret
      exact ⟨by rw [vchk_ok HW.out (by omega)]; rfl, below_start (hb0.trans (hb2.mono (by have := hb0.size; simpa using this)))⟩


theorem vchk_ok_iff {k n : Int} {s : ByteArray} {kids : VL} (h : vchk k n s kids = 0) : vwf k n s kids = true ∧ vdepth k kids ≤ 16 := by
  unfold vchk at h
  by_cases h1 : vwf k n s kids = true
  · rw [if_pos h1] at h
    by_cases h2 : 16 < vdepth k kids
    · rw [if_pos h2] at h; cases h
    · exact ⟨h1, by omega⟩
  · rw [if_neg h1] at h; cases h
theorem vwf_kind {k n : Int} {s : ByteArray} {kids : VL} (h : vwf k n s kids = true) : (k = 1 ∨ k = 2 ∨ k = 3) ∧ kids.wf = true := by
  by_cases h1 : k = 1
  · subst h1; simp [vwf] at h; exact ⟨.inl rfl, by cases kids <;> simp_all [VL.isNil, VL.wf]⟩
  · by_cases h2 : k = 2
    · subst h2; simp [vwf] at h; exact ⟨.inr (.inl rfl), by cases kids <;> simp_all [VL.isNil, VL.wf]⟩
    · by_cases h3 : k = 3
      · subst h3; simp [vwf] at h; exact ⟨.inr (.inr rfl), h.1⟩
      · simp [vwf, h1, h2, h3] at h
theorem vchk_range (k n : Int) (s : ByteArray) (kids : VL) : 0 ≤ vchk k n s kids ∧ vchk k n s kids ≤ 2 := by unfold vchk; split <;> (try split) <;> omega

set_option maxHeartbeats 400000 in
theorem size_bad (B : Nat) (k n : Int) (s : ByteArray) (a : Option Addr) (cap : Nat) (kids : VL) (w : World) (hm : kids.sz ≤ 1000000000000) (hk : I64 k) (hn : I64 n) (hs : s.size ≤ maxLen) (hr : RepS B w a cap kids) (hB : B ≤ w.heap.size) (hc : ¬ vchk k n s kids = 0) :
    Calls Tryz.prog 110 #[.agg #[.int .i64 k, .int .i64 n, .string s, .slice a kids.len cap]] w fun e w' => e = .returned (.tuple #[.int .i64 0, .int .i64 (vchk k n s kids)]) ∧ Below w.heap.size w w' := by
  have hr1 : RepS B (w.alloc (.cells #[.int .i64 k, .int .i64 n, .string s, .slice a kids.len cap] 100)) a cap kids := hr.below ((Below.refl _ _).alloc hB _)
  have g1 : (vchk k n s kids == 0) = false := by simpa using hc
  have hrg := vchk_range k n s kids
  go_enter Tryz.func110, Tryz.ntmps110
  go_wp2_with fail
  refine (check_any B k n s a cap kids _ hm hk hn hs hr1 (le_alloc hB _)).mono ?_
  rintro e w1 ⟨rfl, hb⟩
  go_wp2_with fail
  go_ret2
  exact ⟨rfl, below_start (hb.mono (by simp))⟩

set_option maxHeartbeats 400000 in
theorem size_ok (B : Nat) (k n : Int) (s : ByteArray) (a : Option Addr) (cap : Nat) (kids : VL) (w : World) (hm : kids.sz ≤ 1000000000000) (hv : vsize k n s kids ≤ 1000000000000) (hk : I64 k) (hn : I64 n) (hs : s.size ≤ maxLen) (hr : RepS B w a cap kids) (hB : B ≤ w.heap.size) (hc : vchk k n s kids = 0) :
    Calls Tryz.prog 110 #[.agg #[.int .i64 k, .int .i64 n, .string s, .slice a kids.len cap]] w fun e w' => e = .returned (.tuple #[.int .i64 (vsize k n s kids : Nat), .int .i64 0]) ∧ Below w.heap.size w w' := by
  have hr1 : RepS B (w.alloc (.cells #[.int .i64 k, .int .i64 n, .string s, .slice a kids.len cap] 100)) a cap kids := hr.below ((Below.refl _ _).alloc hB _)
  have HC := Lib.hid hc
  clear hc
  go_enter Tryz.func110, Tryz.ntmps110
  go_wp2_with fail
  refine (check_any B k n s a cap kids _ hm hk hn hs hr1 (le_alloc hB _)).mono ?_
  rw [HC.out]
  rintro e w1 ⟨rfl, hb⟩
  have hb0 : Below (w.heap.size + 1) (w.alloc (.cells #[.int .i64 k, .int .i64 n, .string s, .slice a kids.len cap] 100)) w1 := hb.mono (by simp)
  have hz : B ≤ w1.heap.size := by have := hb0.size; simp at this; omega
  obtain ⟨c0, c1, c2, c3⟩ := box4 hb0
  go_wp2_with fail
  refine (size_any kids.sz B k n s a cap kids _ (Nat.le_refl _) hv hk hn hs (hr.below (((Below.refl _ _).alloc hB _).trans (hb0.mono (by omega)))) hz).mono ?_
  rintro e w2 ⟨rfl, hb2⟩
  go_wp2_with fail
  go_ret2
  exact ⟨rfl, below_start (hb0.trans (hb2.mono (by have := hb0.size; simpa using this)))⟩

set_option maxHeartbeats 400000 in
theorem encode_bad (B : Nat) (k n : Int) (s : ByteArray) (a : Option Addr) (cap : Nat) (kids : VL) (w : World) (hm : kids.sz ≤ 1000000000000) (hk : I64 k) (hn : I64 n) (hs : s.size ≤ maxLen) (hr : RepS B w a cap kids) (hB : B ≤ w.heap.size) (hc : ¬ vchk k n s kids = 0) :
    Calls Tryz.prog 96 #[.agg #[.int .i64 k, .int .i64 n, .string s, .slice a kids.len cap]] w fun e w' => e = .returned (.tuple #[.slice none 0 0, .int .i64 (vchk k n s kids)]) ∧ Below w.heap.size w w' := by
  have hr1 : RepS B (w.alloc (.cells #[.int .i64 k, .int .i64 n, .string s, .slice a kids.len cap] 100)) a cap kids := hr.below ((Below.refl _ _).alloc hB _)
  have g1 : (vchk k n s kids == 0) = false := by simpa using hc
  have hrg := vchk_range k n s kids
  go_enter Tryz.func96, Tryz.ntmps96
  go_wp2_with fail
  refine (size_bad B k n s a cap kids _ hm hk hn hs hr1 (le_alloc hB _) hc).mono ?_
  rintro e w1 ⟨rfl, hb⟩
  go_wp2_with fail
  go_ret2
  exact ⟨rfl, below_start (hb.mono (by simp))⟩

set_option maxRecDepth 100000 in
set_option maxHeartbeats 400000 in
theorem encode_ok (B : Nat) (k n : Int) (s : ByteArray) (a : Option Addr) (cap : Nat) (kids : VL) (w : World) (hm : kids.sz ≤ 1000000000000) (hv : vsize k n s kids ≤ 1000000000000) (hk : I64 k) (hn : I64 n) (hs : s.size ≤ maxLen) (hr : RepS B w a cap kids) (hB : B ≤ w.heap.size) (hc : vchk k n s kids = 0) :
    Calls Tryz.prog 96 #[.agg #[.int .i64 k, .int .i64 n, .string s, .slice a kids.len cap]] w fun e w' => ∃ v, e = .returned (.tuple #[v, .int .i64 0]) ∧ OwnB w.heap.size w' v (venc k n s kids) ∧ Below w.heap.size w w' := by
  have hr1 : RepS B (w.alloc (.cells #[.int .i64 k, .int .i64 n, .string s, .slice a kids.len cap] 100)) a cap kids := hr.below ((Below.refl _ _).alloc hB _)
  have HV := Lib.hid (vwf_kind (vchk_ok_iff hc).1)
  have HC := Lib.hid hc
  clear hc
  have hmk := run_makeB (vsize k n s kids) (by omega)
  go_enter Tryz.func96, Tryz.ntmps96
  go_wp2_with fail
  refine (size_ok B k n s a cap kids _ hm hv hk hn hs hr1 (le_alloc hB _) HC.out).mono ?_
  rintro e w1 ⟨rfl, hb⟩
  have hb0 : Below (w.heap.size + 1) (w.alloc (.cells #[.int .i64 k, .int .i64 n, .string s, .slice a kids.len cap] 100)) w1 := hb.mono (by simp)
  have hz : w.heap.size + 1 ≤ w1.heap.size := by simpa using hb0.size
  have hrw := hr.below (((Below.refl _ _).alloc hB _).trans (hb0.mono (by omega)))
  have hbx := box4 hb0
  obtain ⟨c0, c1, c2, c3⟩ := hbx
  have hBz : B ≤ w1.heap.size := by omega
  go_wp2_with fail
  go_region_held3 (fun w' => w'.cell? ⟨w.heap.size, 0, none⟩ = some (.int .i64 k) ∧ w'.cell? ⟨w.heap.size, 1, none⟩ = some (.int .i64 n) ∧ w'.cell? ⟨w.heap.size, 2, none⟩ = some (.string s) ∧ w'.cell? ⟨w.heap.size, 3, none⟩ = some (.slice a kids.len cap))
    (first
      | exact hq2
      | exact box4 (hb0.drew)
      | exact box4 ((hb0.alloc hz _).drew))
    (first
      | (go_at_call 111
         refine (cwrite_any kids.sz w.heap.size k n s a cap kids _ [] _ (Nat.le_refl _) HV.out.1 HV.out.2 hv hn hs ?_ (OwnB.made _ ?_ ?_).drew ?_ ?_).mono ?_
         · exact RepS.mono (RepS.below (((Below.refl _ _).alloc hBz _).drew) hrw) hB
         · omega
         · omega
         · simp only [List.length_nil]; omega
         · simp; omega
         rintro e w2 ⟨v2, rfl, hown, hg⟩
         have hq2 := box4_grew hg (Nat.lt_of_lt_of_le hz (Nat.le_of_lt (lt_alloc_drew _ _))) (by simp [Value.ownBlock]; omega) (box4 ((hb0.alloc hz _).drew))
         have HO := Lib.hid hown
         have hzw : w.heap.size ≤ w1.heap.size := by omega
         have hrow : ∀ k', (Value.slice (some ⟨w1.heap.size, 0, none⟩) 0 (vsize k n s kids)).ownBlock = some k' → w.heap.size ≤ k' := by
           intro k' hk'; simp [Value.ownBlock] at hk'; omega
         have HG := Lib.hid ((below_start hb0).trans ((((Below.refl w.heap.size w1).alloc hzw _).drew).trans (hg.below hrow (le_alloc_drew hzw _))))))
  go_wp2
  go_ret2
  exact ⟨_, rfl, HO.out, HG.out⟩
end Go.Proofs.YteigldfdaciopaaGreatDoor

namespace Go.Proofs.YteigldfdaciopaaGreatDoor
open Go.RowKit

set_option maxHeartbeats 400000 in
theorem refTop_bad (B : Nat) (k n : Int) (s : ByteArray) (a : Option Addr) (cap : Nat) (kids : VL) (w : World) (hm : kids.sz ≤ 1000000000000) (hk : I64 k) (hn : I64 n) (hs : s.size ≤ maxLen) (hr : RepS B w a cap kids) (hB : B ≤ w.heap.size) (hc : ¬ vchk k n s kids = 0) :
    Calls Tryz.prog 101 #[.agg #[.int .i64 k, .int .i64 n, .string s, .slice a kids.len cap]] w fun e w' => e = .returned (.tuple #[.slice none 0 0, .int .i64 (vchk k n s kids)]) ∧ Below w.heap.size w w' := by
  have hr1 : RepS B (w.alloc (.cells #[.int .i64 k, .int .i64 n, .string s, .slice a kids.len cap] 100)) a cap kids := hr.below ((Below.refl _ _).alloc hB _)
  have g1 : (vchk k n s kids == 0) = false := by simpa using hc
  have hrg := vchk_range k n s kids
  go_enter Tryz.func101, Tryz.ntmps101
  go_wp2_with fail
  refine (refCheck_any B k n s a cap kids _ hm hk hn hs hr1 (le_alloc hB _)).mono ?_
  rintro e w1 ⟨rfl, hb⟩
  go_wp2_with fail
  go_ret2
  exact ⟨rfl, below_start (hb.mono (by simp))⟩

set_option maxHeartbeats 400000 in
theorem refTop_ok (B : Nat) (k n : Int) (s : ByteArray) (a : Option Addr) (cap : Nat) (kids : VL) (w : World) (hm : kids.sz ≤ 1000000000000) (hv : vsize k n s kids ≤ 1000000000000) (hk : I64 k) (hn : I64 n) (hs : s.size ≤ maxLen) (hr : RepS B w a cap kids) (hB : B ≤ w.heap.size) (hc : vchk k n s kids = 0) :
    Calls Tryz.prog 101 #[.agg #[.int .i64 k, .int .i64 n, .string s, .slice a kids.len cap]] w fun e w' => ∃ v, e = .returned (.tuple #[v, .int .i64 0]) ∧ OwnB w.heap.size w' v (venc k n s kids) ∧ Below w.heap.size w w' := by
  have hr1 : RepS B (w.alloc (.cells #[.int .i64 k, .int .i64 n, .string s, .slice a kids.len cap] 100)) a cap kids := hr.below ((Below.refl _ _).alloc hB _)
  have HC := Lib.hid hc
  clear hc
  go_enter Tryz.func101, Tryz.ntmps101
  go_wp2_with fail
  refine (refCheck_any B k n s a cap kids _ hm hk hn hs hr1 (le_alloc hB _)).mono ?_
  rw [HC.out]
  rintro e w1 ⟨rfl, hb⟩
  have hb0 : Below (w.heap.size + 1) (w.alloc (.cells #[.int .i64 k, .int .i64 n, .string s, .slice a kids.len cap] 100)) w1 := hb.mono (by simp)
  have hz : w.heap.size + 1 ≤ w1.heap.size := by simpa using hb0.size
  have hrw := hr.below (((Below.refl _ _).alloc hB _).trans (hb0.mono (by omega)))
  obtain ⟨c0, c1, c2, c3⟩ := box4 hb0
  go_wp2_with fail
  refine (refEncode kids.sz B k n s a cap kids _ (Nat.le_refl _) hv hk hn hs hrw (by omega)).mono ?_
  rintro e w2 ⟨v, rfl, hown, hb2⟩
  have HO := Lib.hid (hown.mono (show w.heap.size ≤ w1.heap.size by omega))
  clear hown
  go_wp2_with fail
  go_ret2
  exact ⟨_, rfl, HO.out, below_start (hb0.trans (hb2.mono hz))⟩

end Go.Proofs.YteigldfdaciopaaGreatDoor
