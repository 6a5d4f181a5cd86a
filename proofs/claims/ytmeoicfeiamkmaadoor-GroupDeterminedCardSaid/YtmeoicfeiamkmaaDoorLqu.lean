/-
  A region that does not draw its order, walked by the cheap steps of the quiet walk: its first n operations leave the world alone but for draws, the rest is walked as always.
-/
import Derived.Test.YtmeoicfeiamkmaaDoorKnu
namespace Go.Proofs.YtmeoicfeiamkmaaDoor
open Go.RowKit

theorem wpList_of_quiet {P : Program} {ops : Array Oper} {C : World → Prop} {F : Act → Prop} {Q : Exit → Act → World → Prop} {rest : List Oper}
    (hF : ∀ a w, C w → F a → wpList P ops Q rest a w) : ∀ (l : List Oper) (a : Act) (w : World), C w → wpQuiet P ops C F l a → wpList P ops Q (l ++ rest) a w := by
  intro l
  induction l with
  | nil => intro a w hC hq; exact hF a w hC hq
  | cons o l ih =>
    intro a w hC hq
    refine wpList_step fun K hK => ?_
    unfold wpQuiet at hq
    by_cases hw : Region.wanted o (yielded ops a.tmps) = true
    · rw [if_pos hw] at hq ⊢
      exact Oper.wp_of_quiet hC (fun a' w' hw' h => hK _ _ (ih a' w' hw' h)) hq
    · rw [if_neg hw] at hq ⊢
      exact hK _ _ (ih _ _ hC hq)

theorem wp_region_plain_quiet {P : Program} {id : Nat} {Q : Exit → Act → World → Prop} {a : Act} {w : World} {l : List Oper} (n : Nat)
    (h : wpQuiet P l.toArray (fun w' => ∃ n, w' = w.drewN n) (fun a' => ∀ w', (∃ n, w' = w.drewN n) → wpList P l.toArray Q (l.drop n) a' w') (l.take n) a) : (Code.region id l.toArray false).wp P Q a w := by
  refine wp_region_lit ?_
  have := wpList_of_quiet (rest := l.drop n) (C := fun w' => ∃ n, w' = w.drewN n) (fun a' w' hC hF => hF w' hC) (l.take n) a w ⟨0, rfl⟩ h
  rw [List.take_append_drop] at this
  exact this
end Go.Proofs.YtmeoicfeiamkmaaDoor
