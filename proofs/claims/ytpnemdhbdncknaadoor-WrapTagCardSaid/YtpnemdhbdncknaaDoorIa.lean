/-
  Package wrap, as numbers and bytes: the key of a wrap, what Wrap, Check and Unwrap return; both sides calculate one key.
-/
import Derived.Test.YtpnemdhbdncknaaDoorPkJ
import Derived.Test.YtpnemdhbdncknaaDoorPkS
import Derived.Test.YtpnemdhbdncknaaDoorPkD
namespace Go.Proofs.YtpnemdhbdncknaaDoor
open Go.RowKit
set_option linter.unusedVariables false
set_option linter.unusedSimpArgs false

def lblWrap : ByteArray := ⟨#[119, 114, 97, 112]⟩
def tagWrap : List UInt8 := [119, 114, 97, 112]
/-- The zero nonce. -/
def zN : List UInt8 := List.replicate 12 0
theorem zN_len : zN.length = 12 := by decide
/-- The key of a wrap. -/
def wK (p u v : Int) : List UInt8 := tagS tagWrap (be8 p ++ be8 u ++ be8 v)
theorem wK_len (p u v : Int) : (wK p u v).length = 32 := tagS_len _ _
/-- The exponent of a seed, and U. -/
def wR (K : List UInt8) : Nat := scS K lblWrap
theorem wR_bd (K : List UInt8) : 1 ≤ wR K ∧ wR K < 2305843009213688669 := scS_bd K lblWrap
def wUn (K : List UInt8) : Nat := pubS (wR K)
theorem wUn_el (K : List UInt8) : IsEl ((wUn K : Nat) : Int) := pubS_el _
theorem expR_base (K : List UInt8) : expR 4 (wR K : Nat) = (((wUn K : Nat) : Int), 0) := expR_ok (a := 4) el4N (wR_bd K).2
/-- The key that the side with the seed calculates. -/
noncomputable def wKey (p : Int) (K : List UInt8) : List UInt8 := wK p (wUn K : Nat) (expR p (wR K : Nat)).1
theorem wKey_len (p : Int) (K : List UInt8) : (wKey p K).length = 32 := wK_len _ _ _
/-- What Wrap returns: error, U, Body. -/
noncomputable def wrE (p : Int) (b : List UInt8) : Int := if chkR p = 0 then streamE b else 50
noncomputable def wrU (p : Int) (K b : List UInt8) : Int := if wrE p b = 0 then (wUn K : Nat) else 0
noncomputable def wrB (p : Int) (K hd b : List UInt8) : List UInt8 := if chkR p = 0 then sealX (wKey p K) zN hd b else []
theorem chkR_or (p : Int) : chkR p = 0 ∨ chkR p = 40 := by
  by_cases h : IsEl p
  · exact .inl (chkR_ok h)
  · exact .inr (chkR_bad h)
theorem streamE_or (b : List UInt8) : streamE b = 0 ∨ streamE b = 60 := by unfold streamE; split <;> simp
theorem wr_key {p : Int} (h : chkR p ≠ 0) (K hd b : List UInt8) : wrE p b = 50 ∧ wrU p K b = 0 ∧ wrB p K hd b = [] := by
  have e : wrE p b = 50 := if_neg h
  exact ⟨e, by unfold wrU; rw [e]; rfl, if_neg h⟩
theorem wr_long {p : Int} (h : chkR p = 0) (K hd : List UInt8) {b : List UInt8} (hb : 65536 < b.length) : wrE p b = 60 ∧ wrU p K b = 0 ∧ wrB p K hd b = [] := by
  have e : wrE p b = 60 := by unfold wrE streamE; rw [if_pos h, if_neg (by omega)]
  refine ⟨e, by unfold wrU; rw [e]; rfl, ?_⟩
  unfold wrB sealX; rw [if_pos h, if_neg (by omega)]
theorem wr_ok {p : Int} (h : chkR p = 0) (K hd : List UInt8) {b : List UInt8} (hb : b.length ≤ 65536) : wrE p b = 0 ∧ wrU p K b = (wUn K : Nat) ∧ wrB p K hd b = sealC (wKey p K) zN hd b := by
  have e : wrE p b = 0 := by unfold wrE streamE; rw [if_pos h, if_pos hb]
  refine ⟨e, by unfold wrU; rw [e]; rfl, ?_⟩
  unfold wrB sealX; rw [if_pos h, if_pos hb]
/-- What Check returns. -/
noncomputable def wcE (u : Int) (n : Nat) : Int := if chkR u = 0 ∧ 16 ≤ n ∧ n ≤ 65552 then 0 else 90
theorem wcE_ok {u : Int} {n : Nat} (h : chkR u = 0) (h1 : 16 ≤ n) (h2 : n ≤ 65552) : wcE u n = 0 := if_pos ⟨h, h1, h2⟩
theorem wcE_bad {u : Int} {n : Nat} (h : chkR u ≠ 0 ∨ n < 16 ∨ 65552 < n) : wcE u n = 90 := if_neg (by omega)
theorem wcE_out {u : Int} {n : Nat} (h : wcE u n = 0) : chkR u = 0 ∧ 16 ≤ n ∧ n ≤ 65552 := by
  unfold wcE at h
  split at h
  · assumption
  · cases h
theorem wcE_or (u : Int) (n : Nat) : wcE u n = 0 ∨ wcE u n = 90 := by unfold wcE; split <;> simp
/-- The public key of a number, or an error. -/
def pubW (x : Int) : Int × Int := if 1 ≤ x ∧ x < 2305843009213688669 then (((pubS x.toNat : Nat) : Int), 0) else (0, 50)
theorem pubW_ok {x : Nat} (h1 : 1 ≤ x) (h2 : x < 2305843009213688669) : pubW x = (((pubS x : Nat) : Int), 0) := by
  unfold pubW; rw [if_pos (by omega)]; simp
theorem pubW_bad {x : Int} (h : ¬ (1 ≤ x ∧ x < 2305843009213688669)) : pubW x = (0, 50) := if_neg h
/-- The key that the side with the private key calculates. -/
noncomputable def unKey (x u : Int) : List UInt8 := wK (pubW x).1 u (expR u x).1
theorem unKey_len (x u : Int) : (unKey x u).length = 32 := wK_len _ _ _
/-- What Unwrap returns. -/
noncomputable def unE (x : Int) (hd : List UInt8) (u : Int) (c : List UInt8) : Int := if (pubW x).2 = 0 then (if wcE u c.length = 0 then openE (unKey x u) zN hd c else 90) else 50
noncomputable def unX (x : Int) (hd : List UInt8) (u : Int) (c : List UInt8) : List UInt8 := if (pubW x).2 = 0 ∧ wcE u c.length = 0 then openX (unKey x u) zN hd c else []
theorem un_key {x : Int} (h : (pubW x).2 ≠ 0) (hd : List UInt8) (u : Int) (c : List UInt8) : unE x hd u c = 50 ∧ unX x hd u c = [] := ⟨if_neg h, if_neg fun e => h e.1⟩
theorem un_wrap {x u : Int} {c : List UInt8} (h : (pubW x).2 = 0) (h2 : wcE u c.length ≠ 0) (hd : List UInt8) : unE x hd u c = 90 ∧ unX x hd u c = [] := by
  refine ⟨?_, if_neg fun e => h2 e.2⟩
  unfold unE; rw [if_pos h, if_neg h2]
theorem un_ok {x u : Int} {c : List UInt8} (h : (pubW x).2 = 0) (h2 : wcE u c.length = 0) (hd : List UInt8) : unE x hd u c = openE (unKey x u) zN hd c ∧ unX x hd u c = openX (unKey x u) zN hd c := by
  refine ⟨?_, if_pos ⟨h, h2⟩⟩
  unfold unE; rw [if_pos h, if_pos h2]
/-- Both sides: the power of the public key with the seed's exponent is the power of U with the private key. -/
theorem both_pow {x : Nat} (h1 : 1 ≤ x) (h2 : x < 2305843009213688669) (K : List UInt8) : expR ((pubS x : Nat) : Int) (wR K : Nat) = expR ((wUn K : Nat) : Int) (x : Nat) := by
  rw [expR_ok (pubS_el x) (wR_bd K).2, expR_ok (wUn_el K) h2]
  unfold wUn pubS
  rw [← Nat.pow_mod, ← Nat.pow_mod, ← Nat.pow_mul, ← Nat.pow_mul, Nat.mul_comm]
theorem both_key {x : Nat} (h1 : 1 ≤ x) (h2 : x < 2305843009213688669) (K : List UInt8) : wKey ((pubS x : Nat) : Int) K = unKey (x : Nat) ((wUn K : Nat) : Int) := by
  unfold wKey unKey
  rw [both_pow h1 h2 K, pubW_ok h1 h2]
/-- What is wrapped is valid, and unwrapped. -/
theorem unwraps {x : Nat} (h1 : 1 ≤ x) (h2 : x < 2305843009213688669) (K hd : List UInt8) {b : List UInt8} (hb : b.length ≤ 65536) :
    wrE ((pubS x : Nat) : Int) b = 0 ∧ wrU ((pubS x : Nat) : Int) K b = (wUn K : Nat) ∧ (wrB ((pubS x : Nat) : Int) K hd b).length = b.length + 16 ∧ wcE ((wUn K : Nat) : Int) (b.length + 16) = 0 ∧
      unE (x : Nat) hd ((wUn K : Nat) : Int) (wrB ((pubS x : Nat) : Int) K hd b) = 0 ∧ unX (x : Nat) hd ((wUn K : Nat) : Int) (wrB ((pubS x : Nat) : Int) K hd b) = b := by
  obtain ⟨e1, e2, e3⟩ := wr_ok (chkR_ok (pubS_el x)) K hd hb
  have hl : (sealC (wKey ((pubS x : Nat) : Int) K) zN hd b).length = b.length + 16 := sealC_len _ _ _ _
  have hc : wcE ((wUn K : Nat) : Int) (b.length + 16) = 0 := wcE_ok (chkR_ok (wUn_el K)) (by omega) (by omega)
  obtain ⟨u1, u2⟩ := un_ok (x := (x : Nat)) (u := ((wUn K : Nat) : Int)) (c := sealC (wKey ((pubS x : Nat) : Int) K) zN hd b) (by rw [pubW_ok h1 h2]) (by rw [hl]; exact hc) hd
  rw [e3]
  refine ⟨e1, e2, hl, hc, ?_, ?_⟩
  · rw [u1, ← both_key h1 h2 K]
    unfold openE
    rw [if_pos (opens_seal _ _ _ _ hb)]
  · rw [u2, ← both_key h1 h2 K]
    unfold openX
    rw [if_pos (opens_seal _ _ _ _ hb), open_seal]
end Go.Proofs.YtpnemdhbdncknaaDoor
