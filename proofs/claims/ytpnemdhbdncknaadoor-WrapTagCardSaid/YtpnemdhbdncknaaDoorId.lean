/-
  Public keys, for all numbers: sign's and the reference's; U and the powers of a wrap.
-/
import Derived.Test.YtpnemdhbdncknaaDoorIc
import Derived.Test.YtpnemdhbdncknaaDoorPkS
namespace Go.Proofs.YtpnemdhbdncknaaDoor
open Go.RowKit
set_option linter.unusedVariables false
set_option linter.unusedSimpArgs false

theorem public_any (x : Int) (w : World) : Calls Tryd.prog 11 #[.int .i64 x] w fun e w' => e = .returned (.tuple #[.int .i64 (pubW x).1, .int .i64 (pubW x).2]) ∧ Below w.heap.size w w' := by
  by_cases h : IsKey x
  · obtain ⟨n, rfl⟩ : ∃ n : Nat, x = n := ⟨x.toNat, by have := h.1; omega⟩
    rw [pubW_ok (by have := h.1; omega) (by have := h.2; omega)]
    exact public_ok n (by have := h.1; omega) (by have := h.2; omega) w
  · rw [pubW_bad h]
    exact public_bad x h w
/-- The power of 4 with the exponent of a seed. -/
theorem wBase (K : List UInt8) (w : World) : Calls Tryd.prog 16 #[.int .i64 (wR K : Nat)] w fun e w' => e = .returned (.tuple #[.int .i64 (wUn K : Nat), .int .i64 0]) ∧ Below w.heap.size w w' := by
  have k := gBase_any (wR K : Nat) w
  rw [expR_base K] at k
  exact k
/-- The error of a power is none for an element and an exponent that is a scalar. -/
theorem expR_two {u : Int} {k : Nat} (h : chkR u = 0) (hk : k < 2305843009213688669) : (expR u k).2 = 0 := by
  by_cases hu : IsEl u
  · obtain ⟨n, rfl, _⟩ := hu.nat
    rw [expR_ok hu hk]
  · rw [chkR_bad hu] at h; cases h
end Go.Proofs.YtpnemdhbdncknaaDoor
