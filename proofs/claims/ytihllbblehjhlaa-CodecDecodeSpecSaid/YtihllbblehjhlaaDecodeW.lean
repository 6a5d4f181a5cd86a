/-
  The walk of CodecDecodeSpec.
-/
import Derived.Test.YtihllbblehjhlaaRde
import Derived.Test.YtihllbblehjhlaaSan
import Derived.Test.YtihllbblehjhlaaSam
namespace Go.Proofs.Ytihllbblehjhlaa
open Go.RowKit

theorem VL.same_self : ∀ f : VL, f.same f = true
  | .nil => rfl
  | .cons k n s kids r => by rw [VL.same_cons]; unfold vsame; rw [VL.same_self kids, VL.same_self r]; simp
theorem vsame_self (k n : Int) (s : ByteArray) (kids : VL) : vsame k n s kids k n s kids = true := by
  unfold vsame; rw [VL.same_self]; simp
/-- Either answer of a decoder, as a value. -/
theorem DecPost.form {w w' : World} {res : Option Val} {e : Ending} (h : DecPost w res e w') : ∃ (v : Val) (a : Option Addr) (cap : Nat) (c : Int), v = res.getD ⟨0, 0, ByteArray.empty, .nil⟩ ∧ c = (if res.isSome then 0 else 10) ∧ e = .returned (.tuple #[.agg #[.int .i64 v.k, .int .i64 v.n, .string v.s, .slice a v.kids.len cap], .int .i64 c]) ∧ RepS w'.heap.size w' a cap v.kids ∧ Below w.heap.size w w' := by
  rcases h with ⟨v, a, cap, rfl, rfl, hk, hn, hs, hq, hb⟩ | ⟨rfl, rfl, hb⟩
  · exact ⟨v, a, cap, 0, rfl, rfl, rfl, hq.toS fun k hk => hk.2, hb⟩
  · exact ⟨⟨0, 0, ByteArray.empty, .nil⟩, none, 0, 10, rfl, rfl, rfl, ⟨Nat.zero_le _, .inl ⟨fun _ => rfl, rfl⟩⟩, hb⟩

set_option maxRecDepth 100000 in
set_option maxHeartbeats 1600000 in
theorem decode_walk (B : Nat) (a : Option Addr) (cap : Nat) (l : List UInt8) (w : World) (hr : RdB B w a l) (hB : B ≤ w.heap.size) (hcap : l.length ≤ cap) (hcm : cap ≤ maxLen) :
    Calls Try.prog 4 #[.slice a l.length cap] w fun e w' => e = .returned (.bool true) ∧ Below w.heap.size w w' := by
  have HRd := Lib.hid hr
  have HCP := Lib.hid (And.intro hcap hcm)
  have hlm : l.length ≤ 9223372036854775807 := by have := Nat.le_trans hcap hcm; unfold maxLen at this; omega
  clear hr hcap hcm
  by_cases hl : l.length ≤ 2000
  · go_enter Try.func4, Try.ntmps4
    go_wp2_with fail
    refine (sane_any _).mono ?_
    rintro e w1 ⟨rfl, hb1⟩
    have hz1 := hb1.size
    have HB1 := Lib.hid hb1
    clear hb1
    go_wp2_with fail
    refine (decode_any B a cap l _ (HRd.out.below (HB1.out.mono hB)) (by omega) HCP.out.1 HCP.out.2 (by omega)).mono ?_
    intro e w2 hp
    obtain ⟨v, a2, cap2, c, hv, hc, rfl, hr2, hb2⟩ := hp.form
    have HV := Lib.hid hv
    have HC := Lib.hid hc
    have HR2 := Lib.hid hr2
    have HB2 := Lib.hid (HB1.out.trans (hb2.mono hz1))
    have hz2 : w.heap.size ≤ w2.heap.size := HB2.out.size
    clear hp hv hc hr2 hb2
    go_wp2_with fail
    refine (refDecode_any B a cap l _ (HRd.out.below ((HB2.out.mono hB).trans ((Below.refl _ _).alloc (by omega) _))) (by simp; omega) HCP.out.1 HCP.out.2 (by omega)).mono ?_
    intro e w3 hp
    obtain ⟨v', a3, cap3, c', hv', hc', rfl, hr3, hb3⟩ := hp.form
    obtain rfl : v' = v := hv'.trans HV.out.symm
    obtain rfl : c' = c := hc'.trans HC.out.symm
    have hb03 := Lib.hid (HB2.out.trans (((Below.refl _ _).alloc (by omega) _).trans (hb3.mono (by simp; omega))))
    have hz3 : w2.heap.size + 1 ≤ w3.heap.size := by simpa using hb3.size
    have hbox := box4 (hb3.mono (by simp))
    obtain ⟨c0, c1, c2, c3⟩ := hbox
    have HR3 := Lib.hid hr3
    have hr23 := Lib.hid ((HR2.out.below (((Below.refl _ _).alloc (Nat.le_refl _) _).trans (hb3.mono (by simp)))).mono (show w2.heap.size ≤ w3.heap.size by omega))
    clear hp hv' hc' hr3 hb3
    have hne : ¬ w2.heap.size = w3.heap.size := by omega
    have hkp : ∀ (o : Obj) (j : Nat), (w3.alloc o).cell? ⟨w2.heap.size, j, none⟩ = w3.cell? ⟨w2.heap.size, j, none⟩ := fun o j => World.cell?_alloc_past _ _ _ (by show w2.heap.size < w3.heap.size; omega)
    go_wp2_with fail
    refine (refSame_any v'.kids.sz w3.heap.size _ _ _ _ _ _ _ _ _ _ _ _ _ (Nat.le_refl _) (hr23.out.below ((Below.refl _ _).alloc (Nat.le_refl _) _)) (HR3.out.below ((Below.refl _ _).alloc (Nat.le_refl _) _)) (by simp)).mono ?_
    rw [vsame_self]
    rintro e w4 ⟨rfl, hb4⟩
    have hb04 := Lib.hid (hb03.out.trans (((Below.refl _ _).alloc (by omega) _).trans (hb4.mono (by simp; omega))))
    clear hb4
    go_wp2_with fail
    go_ret
    exact ⟨rfl, hb04.out⟩
  · go_enter Try.func4, Try.ntmps4
    go_wp2_with fail
    refine (sane_any _).mono ?_
    rintro e w1 ⟨rfl, hb1⟩
    have hgt : (2000 : Int) < (l.length : Int) := by omega
    have HB1 := Lib.hid hb1
    clear hb1
    go_wp2_with fail
    go_ret
    exact ⟨rfl, HB1.out⟩
end Go.Proofs.Ytihllbblehjhlaa
