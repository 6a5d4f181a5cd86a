/-
  A drawn region's outcome said by the slots that it writes; walked by an invariant over what has come up.
-/
import Derived.Test.YtfdfaajjlangjaaRgi
namespace Go.Proofs.Ytfdfaajjlangjaa
open Go.RowKit
set_option linter.unusedVariables false
set_option linter.unusedSimpArgs false

/-- The frame with these slots written anew. -/
def writes (a : Act) (slots : List Nat) (f : Nat → Value) : Act := slots.foldl (fun a i => a.put (some i) (f i)) a
theorem region_writes {P : Program} {c : Code} {K : Act → World → Prop} {Q : Exit → Act → World → Prop} {a : Act} {w : World} (slots : List Nat) (G : (Nat → Value) → World → Prop) (hK : ∀ f w', G f w' → K (writes a slots f) w')
    (h : c.wp P (fun e a' w' => e = .normal ∧ ∃ f, a' = writes a slots f ∧ G f w') a w) : c.wp P (Exit.then K Q) a w :=
  Code.wp_mono (fun e a' w' h => by obtain ⟨rfl, f, rfl, h⟩ := h; exact hK _ _ h) h
theorem writes_ex {a' a : Act} {slots : List Nat} {G : (Nat → Value) → Prop} (h : a' = writes a slots (fun i => a'.tmps.getD i undef)) (hG : G (fun i => a'.tmps.getD i undef)) : ∃ f, a' = writes a slots f ∧ G f := ⟨_, h, hG⟩
theorem wpAnyH_writes {P : Program} {md : Region.Mode} {ops : Array Oper} {Q : Exit → Act → World → Prop} {S : World → Prop} {fuel : Nat} {listed : Array Bool} {a : Act} {w : World} (slots : List Nat) (J : (Nat → Bool) → (Nat → Value) → World → Prop) (todo : List Nat)
    (hk : (listed.size == ops.size && decide (unl listed.toList ≤ fuel) && (List.range listed.size).all (fun i => listed.getD i true || todo.contains i) && todo.all (fun i => (depsOf md ops i).all (fun j => decide (j < i)))) = true)
    (ha : a = writes a slots (fun i => a.tmps.getD i undef)) (hJ : J (fun j => listed.getD j true) (fun i => a.tmps.getD i undef) w) (hS : S w)
    (hdone : ∀ L f w, J L f w → S w → (∀ j ∈ todo, L j = true) → Q .normal (writes a slots f) w)
    (hsteps : StepsI P md ops Q S (fun L a' w => ∃ f, a' = writes a slots f ∧ J L f w) todo) : wpAnyH P md ops Q S fuel listed a w :=
  wpAnyH_inv (fun L a' w => ∃ f, a' = writes a slots f ∧ J L f w) todo hk ⟨_, ha, hJ⟩ hS (fun L a' w ⟨f, e, h⟩ hS hall => by rw [e]; exact hdone L f w h hS hall) hsteps
end Go.Proofs.Ytfdfaajjlangjaa
