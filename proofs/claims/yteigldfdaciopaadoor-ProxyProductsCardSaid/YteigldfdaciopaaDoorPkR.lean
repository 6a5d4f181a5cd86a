/-
  The reference's padded: the bytes with their end.
  The reference's numbers.
  A region that does not draw its order, walked by the cheap steps of the quiet walk: its first n operations leave the world alone but for draws, the rest is walked as always.
  The reference's block: one step of the hash.
  The reference's Sum.
  The reference's Tagged.
-/
import Derived.Test.YteigldfdaciopaaDoorPkC
import Derived.LoopTactic
import Derived.Great.BuildSlice
set_option linter.unusedVariables false
set_option linter.unusedSimpArgs false
namespace Go.Proofs.YteigldfdaciopaaDoor
open Go.RowKit
set_option linter.unusedVariables false
set_option linter.unusedSimpArgs false

theorem padB_eq (len : Nat) : padB len = (128 : UInt8) :: List.replicate (padN len - 1) 0 ++ (List.range 8).map (szB len) := by
  have h1 := padN_bd len
  apply List.ext_getElem
  · rw [padB_len]; simp; omega
  · intro i h1' h2'
    have h1'' := h1'
    rw [padB_len] at h1''
    have hp : (padB len)[i] = (padA (padN len) 8 len)[i]'(by rw [padA_len]; omega) := by simp only [padB, List.getElem_take]
    rw [hp]
    by_cases h0 : i = 0
    · subst h0; simp [padA]
    · by_cases h3 : i < padN len
      · rw [List.getElem_append_left (by simp; omega), List.getElem_cons, dif_neg h0]
        simp [padA, h0]
        intro h; omega
      · rw [List.getElem_append_right (by simp; omega)]
        simp only [padA, List.getElem_map, List.getElem_range, List.length_cons, List.length_replicate]
        rw [if_neg h0, if_pos ⟨by omega, by omega⟩]
        congr 1; omega
theorem pad_more (n k : Nat) (h : k + 1 ≤ padN n) (hq : ¬ (n + 1 + k) % 64 = 56) : k + 1 + 1 ≤ padN n := by unfold padN at *; omega
theorem pad_end (n k : Nat) (h : k + 1 ≤ padN n) (hq : (n + 1 + k) % 64 = 56) : k = padN n - 1 := by unfold padN at *; omega
/-- The bytes that padded has when k zeros follow the first. -/
def padZ (l : List UInt8) (k : Nat) : List UInt8 := l ++ (128 : UInt8) :: List.replicate k 0
theorem padZ_len (l : List UInt8) (k : Nat) : (padZ l k).length = l.length + 1 + k := by simp [padZ]; omega
theorem padZ_snoc (l : List UInt8) (k : Nat) : padZ l k ++ [0] = padZ l (k + 1) := by
  simp [padZ, List.replicate_succ']
def padS (l : List UInt8) (k : Nat) : List UInt8 := padZ l (padN l.length - 1) ++ (List.range k).map (szB l.length)
theorem padS_snoc (l : List UInt8) (k : Nat) : padS l k ++ [szB l.length k] = padS l (k + 1) := by
  simp [padS, List.range_succ]
theorem padS_len (l : List UInt8) (k : Nat) : (padS l k).length = l.length + padN l.length + k := by
  have := padN_bd l.length
  unfold padS; rw [List.length_append, padZ_len]; simp; omega
theorem padS_8 (l : List UInt8) : padS l 8 = l ++ padB l.length := by
  rw [padB_eq]; simp [padS, padZ]

end Go.Proofs.YteigldfdaciopaaDoor

namespace Go.Proofs.YteigldfdaciopaaDoor
open Go.RowKit
set_option linter.unusedVariables false
set_option linter.unusedSimpArgs false

end Go.Proofs.YteigldfdaciopaaDoor

namespace Go.Proofs.YteigldfdaciopaaDoor
open Go.RowKit

theorem wpList_of_quiet {P : Program} {ops : Array Oper} {C : World → Prop} {F : Act → Prop} {Q : Exit → Act → World → Prop} {rest : List Oper}
    (hF : ∀ a w, C w → F a → wpList P ops Q rest a w) : ∀ (l : List Oper) (a : Act) (w : World), C w → wpQuiet P ops C F l a → wpList P ops Q (l ++ rest) a w := by
  intro l
  induction l with
  | nil => intro a w hC hq; exact hF a w hC hq
  | cons o l ih =>
    intro a w hC hq
    refine wpList_step fun K hK => ?_
    unfold wpQuiet at hq
    by_cases hw : Region.wanted o (yielded ops a.tmps) = true
    · rw [if_pos hw] at hq ⊢
      exact Oper.wp_of_quiet hC (fun a' w' hw' h => hK _ _ (ih a' w' hw' h)) hq
    · rw [if_neg hw] at hq ⊢
      exact hK _ _ (ih _ _ hC hq)

theorem wp_region_plain_quiet {P : Program} {id : Nat} {Q : Exit → Act → World → Prop} {a : Act} {w : World} {l : List Oper} (n : Nat)
    (h : wpQuiet P l.toArray (fun w' => ∃ n, w' = w.drewN n) (fun a' => ∀ w', (∃ n, w' = w.drewN n) → wpList P l.toArray Q (l.drop n) a' w') (l.take n) a) : (Code.region id l.toArray false).wp P Q a w := by
  refine wp_region_lit ?_
  have := wpList_of_quiet (rest := l.drop n) (C := fun w' => ∃ n, w' = w.drewN n) (fun a' w' hC hF => hF w' hC) (l.take n) a w ⟨0, rfl⟩ h
  rw [List.take_append_drop] at this
  exact this
end Go.Proofs.YteigldfdaciopaaDoor

namespace Go.Proofs.YteigldfdaciopaaDoor
open Go.RowKit
set_option linter.unusedVariables false
set_option linter.unusedSimpArgs false

theorem wordsTo_zero (l : List UInt8) : wordsTo 64 l 0 = List.replicate 64 0 := by
  apply List.ext_getElem
  · simp [wordsTo]
  · intro i h1 h2; rw [wordsTo_get, if_neg (by omega), List.getElem_replicate]
theorem wordsTo_sch (l : List UInt8) : wordsTo 64 l 16 = schN (wordsOf l) 0 := by
  apply List.ext_getElem
  · simp [schN, wordsTo, wordsOf]
  · intro i h1 h2
    rw [wordsTo_get]
    simp only [schN]
    rw [List.getElem_append]
    by_cases h : i < 16
    · rw [if_pos h, dif_pos (by rw [wordsOf_len]; exact h)]; simp [wordsOf]
    · rw [if_neg h, dif_neg (by rw [wordsOf_len]; exact h), List.getElem_replicate]

end Go.Proofs.YteigldfdaciopaaDoor

namespace Go.Proofs.YteigldfdaciopaaDoor
open Go.RowKit
set_option linter.unusedVariables false
set_option linter.unusedSimpArgs false

theorem stN_next (m : List UInt8) (k : Nat) : stN m (k + 1) = comp (stN m k) (wordsOf ((m.drop (64 * k)).take 64)) := rfl

theorem slice_mid (g o L cp n : Nat) (h : n + 64 ≤ L) (hL : L ≤ cp) (W : World) : (Instr.slice 64 (.slice (some ⟨g, o, none⟩) L cp) (some (.int .i64 (n : Int))) (some (.int .i64 ((n : Int) + 64))) none).run Tryd.prog W = .ok (.slice (some ⟨g, o + n, none⟩) 64 (cp - n)) W := by
  rw [run_slice_lh (P := Tryd.prog) W 64 (some ⟨g, o, none⟩) L cp (by kernel_rfl) .i64 .i64 (n : Int) ((n : Int) + 64) (by omega) (by omega) (by omega)]
  have hz : (sizeOf (Tryd.prog.elem 64)).run Tryd.prog W = .ok 1 W := by kernel_rfl
  rw [hz]
  have h4 : ¬ (cp = n) := by omega
  have h5 : ((n : Int) + 64).toNat - n = 64 := by omega
  simp [Result.andThen, sliced, h4, h5, Addr.add]

end Go.Proofs.YteigldfdaciopaaDoor

namespace Go.Proofs.YteigldfdaciopaaDoor
open Go.RowKit
set_option linter.unusedVariables false
set_option linter.unusedSimpArgs false

theorem OwnB.nilCap {B : Nat} {w : World} {a : Option Addr} {n cap : Nat} {l : List UInt8} (h : OwnB B w (.slice a n cap) l) : a = none → cap = 0 := by
  obtain ⟨a', cap', e, hf, _⟩ := h.form
  injection e with e1 e2 e3
  subst e1; subst e3
  intro h0
  rcases hf with ⟨_, h1, _⟩ | ⟨g, h1, _⟩
  · exact h1
  · rw [h1] at h0; cases h0

end Go.Proofs.YteigldfdaciopaaDoor
