/-
  Package sign: the bytes of a number, the scalar of numbers and a message; the statements' and the reference's bytes of a number.
  The statements' and the reference's bytes of a number.
  Package sign: the scalar of a tag, numbers and a message; challenges and nonces.
  Package sign: Public and Sign.
  Package sign: the checks of a claim, and Verify.
  Package sign: Verify.
  The reference of sign: bytes of a number, challenges; the statements' challenge.
  The reference of sign: keys, Public, Sign, Verify.
-/
import Derived.Test.YtpnemdhbdncknaaDoorPkH
import Derived.Test.YtpnemdhbdncknaaDoorSs
import Derived.Test.YtpnemdhbdncknaaDoorPkR
import Derived.Test.YtpnemdhbdncknaaDoorPkC
import Derived.Deep.RegionHeld3
import Derived.Test.YtpnemdhbdncknaaDoorPkF
set_option linter.unusedVariables false
set_option linter.unusedSimpArgs false
namespace Go.Proofs.YtpnemdhbdncknaaDoor
open Go.RowKit
set_option linter.unusedVariables false
set_option linter.unusedSimpArgs false

theorem bv_byN (n : Int) (k : Nat) : Value.int .u8 (n / 2 ^ (56 - 8 * k) % 256) = bv (byN n k) := by unfold bv; rw [byN_nat]
theorem arr8_size : (Tryd.prog.info? 97).map (·.size) = some 8 := by kernel_rfl
theorem be8A_size (n : Int) : (bvA (be8 n)).size = 8 := by rw [bvA_size, be8_len]
theorem be8A_sz (n : Int) : (Tryd.prog.info? 97).map (·.size) = some (bvA (be8 n)).size := by rw [be8A_size]; exact arr8_size

end Go.Proofs.YtpnemdhbdncknaaDoor

namespace Go.Proofs.YtpnemdhbdncknaaDoor
open Go.RowKit
set_option linter.unusedVariables false
set_option linter.unusedSimpArgs false

end Go.Proofs.YtpnemdhbdncknaaDoor

namespace Go.Proofs.YtpnemdhbdncknaaDoor
open Go.RowKit
set_option linter.unusedVariables false
set_option linter.unusedSimpArgs false

/-- Block g begins with the numbers ns. -/
def RdN (w : World) (g : Nat) (ns : List Int) : Prop := g < w.heap.size ∧ ∀ j (h : j < ns.length), w.cell? ⟨g, j, none⟩ = some (.int .i64 ns[j])
theorem RdN.below {B : Nat} {w w' : World} {g : Nat} {ns : List Int} (h : RdN w g ns) (hb : Below B w w') (hg : g < B) : RdN w' g ns :=
  ⟨Nat.lt_of_lt_of_le h.1 hb.size, fun j hj => (hb.cell (p := ⟨g, j, none⟩) hg).trans (h.2 j hj)⟩
/-- The bytes of numbers. -/
def catB (ns : List Int) : List UInt8 := (ns.map be8).flatten
theorem catB_len : ∀ ns : List Int, (catB ns).length = 8 * ns.length
  | [] => rfl
  | n :: ns => by
    have h := catB_len ns
    unfold catB at *
    rw [List.map_cons, List.flatten_cons, List.length_append, h, be8_len, List.length_cons]; omega
theorem catB_take (ns : List Int) (k : Nat) (h : k < ns.length) : catB (ns.take (k + 1)) = catB (ns.take k) ++ be8 ns[k] := by
  unfold catB
  rw [List.take_succ_eq_append_getElem h, List.map_append, List.flatten_append]
  simp

/-- The tags. -/
def tagSign : List UInt8 := [115, 105, 103, 110]
def tagNonce : List UInt8 := [110, 111, 110, 99, 101]
/-- The challenge of a public key, an element and a message; the nonce of a private key and a message. -/
def chalS (pub r : Int) (l : List UInt8) : Nat := scalS (tagS tagSign (be8 r ++ be8 pub ++ l))
def nonS (x : Int) (l : List UInt8) : Nat := scalS (tagS tagNonce (be8 x ++ l))
theorem chalS_bd (pub r : Int) (l : List UInt8) : 1 ≤ chalS pub r l ∧ chalS pub r l < 2305843009213688669 := scalS_bd _
theorem nonS_bd (x : Int) (l : List UInt8) : 1 ≤ nonS x l ∧ nonS x l < 2305843009213688669 := scalS_bd _
theorem two_cells {w : World} {a b : Int} : RdN (w.alloc (.cells #[.int .i64 a, .int .i64 b] 3)) w.heap.size [a, b] := by
  refine ⟨by simp, fun j hj => ?_⟩
  rw [cell_of_row _ _ _ _ _ _ (heap_alloc_new w _)]
  match j, hj with
  | 0, _ => rfl
  | 1, _ => rfl
theorem one_cell {w : World} {a : Int} : RdN (w.alloc (.cells #[.int .i64 a] 3)) w.heap.size [a] := by
  refine ⟨by simp, fun j hj => ?_⟩
  rw [cell_of_row _ _ _ _ _ _ (heap_alloc_new w _)]
  match j, hj with
  | 0, _ => rfl

end Go.Proofs.YtpnemdhbdncknaaDoor

namespace Go.Proofs.YtpnemdhbdncknaaDoor
open Go.RowKit
set_option linter.unusedVariables false
set_option linter.unusedSimpArgs false

/-- A private key. -/
def IsKey (x : Int) : Prop := 1 ≤ x ∧ x < 2305843009213688669
/-- A private key's public key. -/
def pubS (x : Nat) : Nat := 4 ^ x % 4611686018427377339
/-- The R of a signature, its challenge, its S. -/
def rS (x : Nat) (l : List UInt8) : Nat := pubS (nonS x l)
def hS (x : Nat) (l : List UInt8) : Nat := chalS (pubS x) (rS x l) l
def sS (x : Nat) (l : List UInt8) : Nat := sigS (nonS x l) (hS x l) x
theorem pubS_el (x : Nat) : IsEl ((pubS x : Nat) : Int) := pow4_is x
theorem sS_lt (x : Nat) (l : List UInt8) : sS x l < 2305843009213688669 := sigS_lt _ _ _
theorem IsKey.nat {x : Int} (h : IsKey x) : ∃ n : Nat, x = (n : Int) ∧ 1 ≤ n ∧ n < 2305843009213688669 := ⟨x.toNat, by have := h.1; omega, by have := h.1; omega, by have := h.2; have := h.1; omega⟩
theorem base_pub (x : Nat) (h : x < 2305843009213688669) : expR 4 (x : Int) = (((pubS x : Nat) : Int), (0 : Int)) := expR_ok el4N h

theorem public_ok (x : Nat) (h1 : 1 ≤ x) (h2 : x < 2305843009213688669) (w : World) :
    Calls Tryd.prog 11 #[.int .i64 x] w fun e w' => e = .returned (.tuple #[.int .i64 (pubS x : Nat), .int .i64 0]) ∧ Below w.heap.size w w' := by
  have k := fun w => gBase_any x w
  rw [base_pub x h2] at k
  have f1 : decide ((x : Int) < 1) = false := decide_eq_false (by omega)
  have f2 : decide ((2305843009213688669 : Int) ≤ (x : Int)) = false := decide_eq_false (by omega)
  generalize pubS x = p at *
  go_enter Tryd.func11, Tryd.ntmps11
  go_wp2_with (go_at_call 16; with_reducible refine (k _).mono ?_; rintro e w1 ⟨rfl, hb⟩)
  go_ret2
  exact ⟨rfl, hb⟩
theorem public_bad (x : Int) (h : ¬ IsKey x) (w : World) :
    Calls Tryd.prog 11 #[.int .i64 x] w fun e w' => e = .returned (.tuple #[.int .i64 0, .int .i64 50]) ∧ Below w.heap.size w w' := by
  by_cases h1 : x < 1
  · have f1 : decide (x < 1) = true := decide_eq_true h1
    go_enter Tryd.func11, Tryd.ntmps11
    go_wp2_with fail
    go_ret2
    exact ⟨rfl, Below.refl _ _⟩
  · have h2 : 2305843009213688669 ≤ x := by unfold IsKey at h; omega
    have f1 : decide (x < 1) = false := decide_eq_false h1
    have f2 : decide (2305843009213688669 ≤ x) = true := decide_eq_true h2
    go_enter Tryd.func11, Tryd.ntmps11
    go_wp2_with fail
    go_ret2
    exact ⟨rfl, Below.refl _ _⟩

/-- A signature as a value. -/
def sigV (r s : Int) : Value := .agg #[.int .i64 r, .int .i64 s]
end Go.Proofs.YtpnemdhbdncknaaDoor

namespace Go.Proofs.YtpnemdhbdncknaaDoor
open Go.RowKit
set_option linter.unusedVariables false
set_option linter.unusedSimpArgs false

/-- A claim as a value. -/
def claimV (pub : Int) (m : Value) (r s : Int) : Value := .agg #[.int .i64 pub, m, .int .i64 r, .int .i64 s]

theorem chkR_elB (a : Int) : chkR a = if elB a then 0 else 40 := by
  by_cases h : IsEl a
  · rw [chkR_ok h, elB_true h]; rfl
  · rw [chkR_bad h, elB_false h]; rfl

set_option maxRecDepth 100000 in
theorem equal_bv8 (a b : List UInt8) (ha : a.length = 8) (hb : b.length = 8) (w : World) : (Op.equalIn 10000 97 (.agg (bvA a)) (.agg (bvA b))).run Tryd.prog w = .ok (deq a b) w := by
  obtain ⟨i0, hi0, hz0, hz1, hz2⟩ := info_parts byteInfo
  have h := run_equalIn_array (P := Tryd.prog) w 9999 (bvA a) (bvA b) Tryd.underlying97 hi0
  have hc : Tryd.prog.cellsOf 5 = 1 := by kernel_rfl
  rw [hc, eqItems_bv 9998 a b w _ (fun i hi => by rw [List.mem_range] at hi; omega)] at h
  refine h.trans ?_
  congr 1
  unfold deq
  rw [Bool.eq_iff_iff, List.all_eq_true, beq_iff_eq]
  constructor
  · intro hall
    apply List.ext_getElem (by omega)
    intro i h1 h2
    have := hall i (by rw [List.mem_range]; omega)
    simpa [List.getD, h1, h2] using this
  · rintro rfl i hi
    simp
theorem deq_be8 {a b : Nat} (ha : a < 4611686018427377339) (hb : b < 4611686018427377339) : deq (be8 (a : Int)) (be8 (b : Int)) = decide (a = b) := by
  unfold deq
  rw [Bool.eq_iff_iff, beq_iff_eq, decide_eq_true_eq, be8_eq_iff (by omega) (by omega) (by omega) (by omega)]
  omega

/-- Whether the equation of a signature holds. -/
def balB (p r s : Nat) (l : List UInt8) : Bool := decide (pubS s = r * (p ^ chalS p r l % 4611686018427377339) % 4611686018427377339)

/-- What Verify answers. -/
def verB (pub : Int) (l : List UInt8) (r s : Int) : Prop := IsEl pub ∧ IsEl r ∧ (0 ≤ s ∧ s < 2305843009213688669) ∧ balB pub.toNat r.toNat s.toNat l = true
noncomputable def verD (pub : Int) (l : List UInt8) (r s : Int) : Bool := @decide (verB pub l r s) (Classical.propDecidable _)
theorem verD_iff {pub : Int} {l : List UInt8} {r s : Int} : verD pub l r s = true ↔ verB pub l r s := @decide_eq_true_iff _ (Classical.propDecidable _)
theorem elB_iff {a : Int} : elB a = true ↔ IsEl a := by
  by_cases h : IsEl a
  · rw [elB_true h]; simp [h]
  · rw [elB_false h]; simp [h]
theorem scal_iff {a : Int} : scal a = true ↔ (0 ≤ a ∧ a < 2305843009213688669) := by simp [scal]
theorem verD_eq (pub : Int) (l : List UInt8) (r s : Int) : verD pub l r s = ((elB pub && elB r) && (scal s && balB pub.toNat r.toNat s.toNat l)) := by
  rw [Bool.eq_iff_iff, verD_iff, Bool.and_eq_true, Bool.and_eq_true, Bool.and_eq_true, elB_iff, elB_iff, scal_iff]
  unfold verB
  exact ⟨fun h => ⟨⟨h.1, h.2.1⟩, h.2.2.1, h.2.2.2⟩, fun h => ⟨h.1.1, h.1.2, h.2.1, h.2.2⟩⟩
end Go.Proofs.YtpnemdhbdncknaaDoor

namespace Go.Proofs.YtpnemdhbdncknaaDoor
open Go.RowKit
set_option linter.unusedVariables false
set_option linter.unusedSimpArgs false

end Go.Proofs.YtpnemdhbdncknaaDoor

namespace Go.Proofs.YtpnemdhbdncknaaDoor
open Go.RowKit
set_option linter.unusedVariables false
set_option linter.unusedSimpArgs false

end Go.Proofs.YtpnemdhbdncknaaDoor

namespace Go.Proofs.YtpnemdhbdncknaaDoor
open Go.RowKit
set_option linter.unusedVariables false
set_option linter.unusedSimpArgs false

/-- The private key that a number stands for. -/
def keyN (n : Int) : Nat := 1 + ofI n % 2305843009213688668
theorem keyN_bd (n : Int) : 1 ≤ keyN n ∧ keyN n < 2305843009213688669 := by unfold keyN; omega
theorem rKey (n : Int) (h : -9223372036854775808 ≤ n) (h2 : n < 9223372036854775808) (w : World) :
    Calls Tryd.prog 10 #[.int .i64 n] w fun e w' => e = .returned (.int .i64 (keyN n : Nat)) ∧ w' = w := by
  have k := fun w => lOf n h h2 w
  have hl := ofI_lt n
  have hk : keyN n = 1 + ofI n % 2305843009213688668 := rfl
  generalize ofI n = m at *
  have c1 : (m : Int).tmod 2305843009213688668 = ((m % 2305843009213688668 : Nat) : Int) := by rw [Int.tmod_eq_emod_of_nonneg (by omega)]; omega
  have hq : m % 2305843009213688668 < 2305843009213688669 := by omega
  generalize m % 2305843009213688668 = q at *
  have c2 := wrapI (q : Int) (by omega) (by omega)
  have c3 := wrapI (1 + (q : Int)) (by omega) (by omega)
  generalize keyN n = y at *
  have HE : Hid (1 + (q : Int) = (y : Int)) := Lib.hid (by omega)
  clear hk
  go_enter Tryd.func10, Tryd.ntmps10
  go_wp2_with (go_at_call 23; with_reducible refine (k _).mono ?_; rintro e w' ⟨rfl, hw⟩; rw [hw]; clear hw w')
  go_ret
  exact ⟨by rw [← HE.out]; rfl, rfl⟩

end Go.Proofs.YtpnemdhbdncknaaDoor
