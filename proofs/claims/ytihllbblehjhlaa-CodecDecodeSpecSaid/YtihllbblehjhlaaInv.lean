/-
  What the plain decoder reads is an encoding: well-formed, not too deep, and it is encoded as the bytes that were read.
-/
import Derived.Test.YtihllbblehjhlaaRep
import Derived.Test.YtihllbblehjhlaaEnc
import Derived.Test.YtihllbblehjhlaaChk
namespace Go.Proofs.Ytihllbblehjhlaa
open Go.RowKit

theorem u8_of {t : UInt8} {n : Nat} (hn : n < 256) (h : t.toNat = n) : t = UInt8.ofNat n := by
  apply UInt8.toNat_inj.1
  rw [h]; simp; omega

/-- What is read, and what is left. -/
def Good (d : Nat) (l : List UInt8) (v : Val) (r : List UInt8) : Prop := l = venc v.k v.n v.s v.kids ++ r ∧ vwf v.k v.n v.s v.kids = true ∧ vdepth v.k v.kids ≤ d

theorem dlist_good {d : Nat} {one : List UInt8 → Option (Val × List UInt8)} (h1 : ∀ l v r, one l = some (v, r) → Good d l v r) : ∀ (c : Nat) (l : List UInt8) (f : VL) (r : List UInt8), dlist one c l = some (f, r) → l = f.enc ++ r ∧ f.wf = true ∧ f.depth ≤ d ∧ f.len = c
  | 0, l, f, r, h => by
    simp only [dlist, Option.some.injEq, Prod.mk.injEq] at h
    obtain ⟨rfl, rfl⟩ := h
    exact ⟨rfl, rfl, Nat.zero_le _, rfl⟩
  | c + 1, l, f, r, h => by
    simp only [dlist] at h
    cases ho : one l with
    | none => rw [ho] at h; cases h
    | some x =>
      obtain ⟨v, l1⟩ := x
      rw [ho] at h
      simp only at h
      cases hd : dlist one c l1 with
      | none => rw [hd] at h; cases h
      | some y =>
        obtain ⟨g, r'⟩ := y
        rw [hd] at h
        simp only [Option.map_some, Option.some.injEq, Prod.mk.injEq] at h
        obtain ⟨rfl, rfl⟩ := h
        obtain ⟨a1, a2, a3⟩ := h1 l v l1 ho
        obtain ⟨b1, b2, b3, b4⟩ := dlist_good h1 c l1 g r' hd
        refine ⟨by rw [VL.enc_cons, List.append_assoc, ← b1, ← a1], by rw [VL.wf_cons, a2, b2]; rfl, ?_, by simp only [VL.len, b4]⟩
        rw [VL.depth_cons]; omega

theorem good_int {d : Nat} {t : UInt8} {l : List UInt8} (ht : t.toNat = 1) {v : Val} {r : List UInt8} (h : (dnum l).map (fun x => ((⟨1, zag x.1, ByteArray.empty, .nil⟩ : Val), x.2)) = some (v, r)) : Good d (t :: l) v r := by
  cases hn : dnum l with
  | none => rw [hn] at h; cases h
  | some x =>
    rw [hn] at h; simp only [Option.map_some, Option.some.injEq, Prod.mk.injEq] at h
    obtain ⟨rfl, rfl⟩ := h
    obtain ⟨a1, a2⟩ := dnum_some (y := x.1) (r := x.2) hn
    refine ⟨?_, ?_, by simp [vdepth]⟩
    · show t :: l = (1 :: numeral (zig (zag x.1))) ++ x.2
      rw [zig_zag, u8_of (by omega) ht, List.cons_append, ← a1]; rfl
    · unfold vwf; rw [if_pos rfl]; show (ByteArray.empty.toList.isEmpty && VL.isNil .nil) = true; decide +kernel
theorem good_text {d : Nat} {t : UInt8} {l : List UInt8} (ht : t.toNat = 2) {v : Val} {r : List UInt8} (h : ((dnum l).bind fun x => if x.1 ≤ x.2.length then some ((⟨2, 0, ⟨(x.2.take x.1).toArray⟩, .nil⟩ : Val), x.2.drop x.1) else none) = some (v, r)) : Good d (t :: l) v r := by
  cases hn : dnum l with
  | none => rw [hn] at h; cases h
  | some x =>
    rw [hn] at h; simp only [Option.bind_some] at h
    split at h
    · rename_i hle
      simp only [Option.some.injEq, Prod.mk.injEq] at h
      obtain ⟨rfl, rfl⟩ := h
      obtain ⟨a1, a2⟩ := dnum_some (y := x.1) (r := x.2) hn
      have hs : (ByteArray.mk (x.2.take x.1).toArray).size = x.1 := by show (x.2.take x.1).toArray.size = x.1; simp; omega
      refine ⟨?_, ?_, by simp [vdepth]⟩
      · show t :: l = (2 :: (numeral (ByteArray.mk (x.2.take x.1).toArray).size ++ (x.2.take x.1).toArray.toList)) ++ x.2.drop x.1
        rw [hs, u8_of (by omega) ht, List.cons_append, List.append_assoc]
        simp only [List.take_append_drop]
        rw [← a1]; rfl
      · simp [vwf, VL.isNil]
    · cases h
theorem dval_good : ∀ (d : Nat) (l : List UInt8) (v : Val) (r : List UInt8), dval d l = some (v, r) → Good d l v r := by
  intro d
  induction d with
  | zero =>
    intro l v r h
    cases l with
    | nil => simp [dval] at h
    | cons t l =>
      simp only [dval] at h
      split at h
      · exact good_int ‹_› h
      · split at h
        · exact good_text ‹_› h
        · cases h
  | succ d ih =>
    intro l v r h
    cases l with
    | nil => simp [dval] at h
    | cons t l =>
      simp only [dval] at h
      split at h
      · exact good_int ‹_› h
      · split at h
        · exact good_text ‹_› h
        · split at h
          · rename_i ht
            cases hn : dnum l with
            | none => rw [hn] at h; cases h
            | some x =>
              rw [hn] at h; simp only [Option.bind_some] at h
              cases hd : dlist (dval d) x.1 x.2 with
              | none => rw [hd] at h; cases h
              | some y =>
                obtain ⟨g, r'⟩ := y
                rw [hd] at h
                simp only [Option.map_some, Option.some.injEq, Prod.mk.injEq] at h
                obtain ⟨rfl, rfl⟩ := h
                obtain ⟨a1, a2⟩ := dnum_some (y := x.1) (r := x.2) hn
                obtain ⟨b1, b2, b3, b4⟩ := dlist_good ih _ _ _ _ hd
                refine ⟨?_, ?_, ?_⟩
                · show t :: l = (3 :: (numeral g.len ++ g.enc)) ++ r'
                  rw [b4, u8_of (by omega) ht, List.cons_append, List.append_assoc, ← b1, ← a1]; rfl
                · show vwf 3 0 ByteArray.empty g = true
                  rw [vwf3, b2]; decide +kernel
                · show vdepth 3 g ≤ d + 1
                  simp only [vdepth]; simp only [if_true]; omega
          · cases h
theorem dec_good {l : List UInt8} {v : Val} (h : dval 16 l = some (v, [])) : venc v.k v.n v.s v.kids = l ∧ vchk v.k v.n v.s v.kids = 0 := by
  obtain ⟨a1, a2, a3⟩ := dval_good 16 l v [] h
  rw [List.append_nil] at a1
  exact ⟨a1.symm, vchk_ok a2 (by omega)⟩
end Go.Proofs.Ytihllbblehjhlaa
