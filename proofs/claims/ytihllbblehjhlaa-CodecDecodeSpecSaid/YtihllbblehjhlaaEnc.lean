/-
  Contracts of numeral and encode (the reference), of appendNumeral, writers, writeInt, writeText, writeList, write and Encode (codec).
-/
import Derived.Test.YtihllbblehjhlaaByt
import Derived.Test.YtihllbblehjhlaaSiz
import Derived.Deep.RegionHeld3
namespace Go.Proofs.Ytihllbblehjhlaa
open Go.RowKit

def numF : Nat → Nat → List UInt8
  | 0, u => [UInt8.ofNat u]
  | f + 1, u => if u < 128 then [UInt8.ofNat u] else UInt8.ofNat (u % 128 + 128) :: numF f (u / 128)
/-- The numeral of a number of 64 bits. -/
def numeral (u : Nat) : List UInt8 := numF 9 u
theorem numF_length : ∀ (f u : Nat), (numF f u).length = ndigF f u
  | 0, u => rfl
  | f + 1, u => by
    simp only [numF, ndigF]
    split
    · rfl
    · simp [numF_length f]; omega
theorem numeral_length (u : Nat) : (numeral u).length = ndig u := numF_length 9 u
def VL.enc : VL → List UInt8
  | .nil => []
  | .cons k n s kids r => (if k = 1 then 1 :: numeral (zig n) else if k = 2 then 2 :: (numeral s.size ++ s.data.toList) else 3 :: (numeral kids.len ++ kids.enc)) ++ r.enc
/-- Of one value. -/
def venc (k n : Int) (s : ByteArray) (kids : VL) : List UInt8 := if k = 1 then 1 :: numeral (zig n) else if k = 2 then 2 :: (numeral s.size ++ s.data.toList) else 3 :: (numeral kids.len ++ kids.enc)
theorem VL.enc_cons (k n : Int) (s : ByteArray) (kids r : VL) : (VL.cons k n s kids r).enc = venc k n s kids ++ r.enc := rfl
theorem VL.enc_length (f : VL) : f.enc.length = f.size := by
  induction f with
  | nil => rfl
  | cons k n s kids r h1 h2 =>
    simp only [VL.enc, VL.size]
    have e : s.data.size = s.size := rfl
    split
    · simp [numeral_length, h2]; omega
    · split
      · simp [numeral_length, h2, e]; omega
      · simp [numeral_length, h1, h2]; omega
theorem venc_length (k n : Int) (s : ByteArray) (kids : VL) : (venc k n s kids).length = vsize k n s kids := by
  have := VL.enc_length (.cons k n s kids .nil)
  rw [VL.enc_cons, VL.size_cons] at this
  simpa [show VL.nil.enc = [] from rfl, show VL.nil.size = 0 from rfl] using this

set_option maxHeartbeats 400000 in
theorem refNumeral1 (u : Nat) (w : World) (hu : u < 128) :
    Calls Try.prog 35 #[.int .u64 u] w fun e w' => ∃ v, e = .returned v ∧ OwnB w.heap.size w' v [UInt8.ofNat u] ∧ Below w.heap.size w w' := by
  have hlt : (u : Int) < 128 := by omega
  go_enter Try.func35, Try.ntmps35
  go_wp2_with fail
  go_ret
  have := OwnB.built (B := w.heap.size) (w := w) (UInt8.ofNat u) (Nat.le_refl _)
  rw [bv_ofNat _ (by omega)] at this
  exact ⟨_, rfl, this, (Below.refl _ _).alloc (Nat.le_refl _) _⟩

set_option maxHeartbeats 400000 in
theorem refNumeral (f : Nat) : ∀ (u : Nat) (w : World), u ≤ 18446744073709551615 → u < 128 ^ (f + 1) → f ≤ 100 →
    Calls Try.prog 35 #[.int .u64 u] w fun e w' => ∃ v, e = .returned v ∧ OwnB w.heap.size w' v (numF f u) ∧ Below w.heap.size w w' := by
  induction f with
  | zero =>
    intro u w hu hf _
    exact refNumeral1 u w (by omega)
  | succ f ih =>
    intro u w hu hf hff
    by_cases h : u < 128
    · rw [show numF (f + 1) u = [UInt8.ofNat u] from by simp [numF, h]]
      exact refNumeral1 u w h
    · obtain ⟨c, HN, HB⟩ : ∃ c, Hid (numF (f + 1) u = c :: numF f (u / 128)) ∧ Hid (bv c = .int .u8 ((u : Int) % 128 + 128)) :=
        ⟨UInt8.ofNat (u % 128 + 128), by show _ = _; simp [numF, h], by show _ = _; rw [bv_ofNat _ (by omega)]; simp⟩
      have hge : ¬ (u : Int) < 128 := by omega
      have hL := ndigF_le f (u / 128)
      rw [← numF_length] at hL
      have hpow : u / 128 < 128 ^ (f + 1) := by rw [Nat.pow_succ] at hf; omega
      have HP := Lib.hid hpow
      clear hpow hf
      go_enter Try.func35, Try.ntmps35
      go_wp2_with fail
      rw [show (u : Int) / 128 = ((u / 128 : Nat) : Int) from by omega]
      refine (ih (u / 128) _ (by omega) HP.out (by omega)).mono ?_
      rintro e w1 ⟨v, rfl, hown, hb⟩
      obtain ⟨a', cap', rfl, hfm, hrd⟩ := hown.form
      have hw1 : w.heap.size + 1 ≤ w1.heap.size := by simpa using hb.size
      have h0 : OwnB w.heap.size w1 (.slice (some ⟨w.heap.size, 0, none⟩) 1 1) [c] := by
        have := OwnB.built (B := w.heap.size) (w := w) c (Nat.le_refl _)
        rw [HB.out] at this
        exact this.below hb
      have HF := Lib.hid hfm
      clear hfm
      go_wp2_with (at_builtin; refine wpList_appB rfl _ _ rfl w.heap.size _ _ _ _ _ rfl h0 rfl hrd ?c1 ?c2 ?c3 ?_)
      case c1 => intro h; rcases HF.out with h1 | ⟨g, h1, _⟩ <;> simp_all
      case c2 => simp; omega
      case c3 => omega
      intro v' w2 hown' hb2
      have hb2 := hb2.below h0.base (by omega)
      go_wp2
      go_ret
      exact ⟨_, rfl, by rw [HN.out]; exact hown', (below_start (hb.mono (by simp))).trans hb2⟩

set_option maxRecDepth 100000 in
set_option maxHeartbeats 400000 in
theorem appendNumeral_any (B u : Nat) (v : Value) (l : List UInt8) (w : World) (hu : u ≤ 18446744073709551615) (hown : OwnB B w v l) (hl : l.length ≤ 10000000000000) (hB : B ≤ w.heap.size) :
    Calls Try.prog 49 #[v, .int .u64 u] w fun e w' => ∃ v', e = .returned v' ∧ OwnB B w' v' (l ++ numeral u) ∧ Grew w v w' v' := by
  have HP0 : Hid (u < 128 ^ (9 + 1)) := by show _ < _; omega
  obtain ⟨tot, HT⟩ : ∃ t, Hid (t = l ++ numeral u) := ⟨_, rfl⟩
  rw [← HT.out]
  have htl : tot.length ≤ 10000000000010 := by have := HT.out; rw [this, List.length_append, numeral_length]; have := ndig_le u; omega
  have HT' : Hid (l ++ numF 9 u = tot) := HT.out.symm
  clear HT
  go_enter Try.func49, Try.ntmps49
  go_wp2
  go_loopw [0, 1] (fun b x wr => ∃ (f y : Nat) (l' : List UInt8), x = .int .u64 y ∧ y ≤ 18446744073709551615 ∧ Hid (y < 128 ^ (f + 1)) ∧ OwnB B wr b l' ∧ Hid (l' ++ numF f y = tot) ∧ Grew w v wr b) (fun _ x _ => (intOf x).toNat)
  case atStart => exact ⟨9, u, l, rfl, hu, HP0, hown, HT', Grew.refl _ _⟩
  case round =>
    obtain ⟨f, y, l', rfl, hy, HP, hown', HT2, hb⟩ := hrel
    have hsz := hb.size
    have hll : l'.length ≤ 10000000000010 := by have := congrArg List.length HT2.out; rw [List.length_append] at this; omega
    by_cases h : y < 128
    · have hlt : (y : Int) < 128 := by omega
      obtain ⟨c, HN, HB⟩ : ∃ c, Hid (numF f y = [c]) ∧ Hid (bv c = .int .u8 (y : Int)) :=
        ⟨UInt8.ofNat y, by show _ = _; cases f <;> simp [numF, h], by show _ = _; rw [bv_ofNat _ (by omega)]⟩
      go_wp2_with (at_builtin; refine wpList_app1 rfl _ _ rfl B _ l' c wr.heap.size rfl (hown'.alloc _) rfl ?c1 ?c2 ?c3 ?_)
      case c1 => rw [HB.out]; simp
      case c2 => omega
      case c3 => simp; omega
      intro v' w2 h3 hb2
      go_wp2
      go_ret
      have h1 := HT2.out
      rw [HN.out] at h1
      exact ⟨_, rfl, h1 ▸ h3, (hb.alloc _).trans hb2⟩
    · have hge : ¬ (y : Int) < 128 := by omega
      cases f with
      | zero => exfalso; have := HP.out; omega
      | succ f =>
      obtain ⟨c, HN, HB⟩ : ∃ c, Hid (numF (f + 1) y = c :: numF f (y / 128)) ∧ Hid (bv c = .int .u8 ((y : Int) % 128 + 128)) :=
        ⟨UInt8.ofNat (y % 128 + 128), by show _ = _; simp [numF, h], by show _ = _; rw [bv_ofNat _ (by omega)]; simp⟩
      go_wp2_with (at_builtin; refine wpList_app1 rfl _ _ rfl B _ l' c wr.heap.size rfl (hown'.alloc _) rfl ?c1 ?c2 ?c3 ?_)
      case c1 => rw [HB.out]
      case c2 => omega
      case c3 => omega
      intro v' w2 h3 hb2
      have HH := Lib.hid h3
      clear h3
      go_wp2
      go_roundw
      case rel =>
        refine ⟨f, y / 128, l' ++ [c], by go_num, ?_, ?_, HH.out, ?_, (hb.alloc _).trans hb2⟩
        · omega
        · show _ < _; have := HP.out; rw [Nat.pow_succ] at this; omega
        · show _ = _; have := HT2.out; rw [HN.out] at this; simpa using this
      case measure => simp [intOf]; omega
end Go.Proofs.Ytihllbblehjhlaa
