/-
  Package wrap, plain: a changed tag is refused; one key gives the xor of the bodies; when Unwrap succeeds.
-/
import Derived.Test.YtpnemdhbdncknaaDoorIa
import Derived.Test.YtpnemdhbdncknaaDoorPkM
namespace Go.Proofs.YtpnemdhbdncknaaDoor
open Go.RowKit
set_option linter.unusedVariables false
set_option linter.unusedSimpArgs false

/-- What is changed in one of the last 16 bytes is refused. -/
theorem unwraps_changed {x : Nat} (h1 : 1 ≤ x) (h2 : x < 2305843009213688669) (K hd : List UInt8) {b : List UInt8} (hb : b.length ≤ 65536) (i : Nat) (hi : i < 16) (v : UInt8) (hv : v ≠ 0) :
    unE (x : Nat) hd ((wUn K : Nat) : Int) ((wrB ((pubS x : Nat) : Int) K hd b).set (b.length + i) ((wrB ((pubS x : Nat) : Int) K hd b).getD (b.length + i) 0 ^^^ v)) = 60 := by
  obtain ⟨e1, e2, e3⟩ := wr_ok (chkR_ok (pubS_el x)) K hd hb
  rw [e3]
  have hl : ((sealC (wKey ((pubS x : Nat) : Int) K) zN hd b).set (b.length + i) ((sealC (wKey ((pubS x : Nat) : Int) K) zN hd b).getD (b.length + i) 0 ^^^ v)).length = b.length + 16 := by rw [List.length_set, sealC_len]
  have hw : wcE ((wUn K : Nat) : Int) (b.length + 16) = 0 := wcE_ok (chkR_ok (wUn_el K)) (by omega) (by omega)
  rw [(un_ok (x := (x : Nat)) (by rw [pubW_ok h1 h2]) (by rw [hl]; exact hw) hd).1, ← both_key h1 h2 K]
  unfold openE
  rw [opens_changed _ _ _ _ hb i hi v, beq_eq_false_iff_ne.2 hv]
  rfl
/-- Less than 16 bytes are refused. -/
theorem unwraps_short {x : Nat} (h1 : 1 ≤ x) (h2 : x < 2305843009213688669) (hd : List UInt8) (u : Int) {c : List UInt8} (hc : c.length < 16) : unE (x : Nat) hd u c = 90 ∧ unX (x : Nat) hd u c = [] :=
  un_wrap (by rw [pubW_ok h1 h2]) (by rw [wcE_bad (.inr (.inl hc))]; decide) hd
/-- Under one key, the xor of the ciphertexts is that of the bodies. -/
theorem xor_bodies (k n hd hd' a b : List UInt8) (i : Nat) (h1 : i < a.length) (h2 : i < b.length) :
    (sealC k n hd a).getD i 0 ^^^ (sealC k n hd' b).getD i 0 = a.getD i 0 ^^^ b.getD i 0 := by
  have e : ∀ (hd l : List UInt8), i < l.length → (sealC k n hd l).getD i 0 = l.getD i 0 ^^^ cbyte k n i := by
    intro hd l hl
    unfold sealC
    rw [List.getD_eq_getElem?_getD, List.getElem?_append_left (by rw [cstream_len]; exact hl), ← List.getD_eq_getElem?_getD, cstream_getD k n l i hl]
  rw [e hd a h1, e hd' b h2]
  rw [UInt8.xor_assoc, ← UInt8.xor_assoc (cbyte k n i), UInt8.xor_comm (cbyte k n i), UInt8.xor_assoc, UInt8.xor_self, UInt8.xor_zero]
/-- When Unwrap succeeds. -/
theorem un_tag {x u : Int} {c : List UInt8} (h : (pubW x).2 = 0) (h2 : wcE u c.length = 0) (hd : List UInt8) :
    unE x hd u c = (if tagged16 (unKey x u) zN hd c then 0 else 60) ∧ (unX x hd u c).length = (if tagged16 (unKey x u) zN hd c then c.length - 16 else 0) := by
  obtain ⟨e1, e2⟩ := un_ok h h2 hd
  obtain ⟨_, g1, g2⟩ := wcE_out h2
  have ho : opensC (unKey x u) zN hd c = tagged16 (unKey x u) zN hd c := by
    unfold opensC; rw [decide_eq_true g1, decide_eq_true g2, Bool.true_and, Bool.true_and]
  rw [e1, e2]
  unfold openE openX
  rw [ho]
  refine ⟨rfl, ?_⟩
  split
  · exact openC_len _ _ _ _
  · rfl
end Go.Proofs.YtpnemdhbdncknaaDoor
