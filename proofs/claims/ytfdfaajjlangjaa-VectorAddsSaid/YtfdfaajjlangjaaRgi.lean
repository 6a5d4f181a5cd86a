/-
  A drawn region walked by an invariant: one proof for each operation, none for the orders.
-/
import Derived.WalkKit
import Derived.Deep.RegionHeld3
import Derived.LoopTactic
import Derived.Below
namespace Go.Proofs.Ytfdfaajjlangjaa
open Go.RowKit
set_option linter.unusedVariables false
set_option linter.unusedSimpArgs false

def depsOf (md : Region.Mode) (ops : Array Oper) (i : Nat) : List Nat :=
  match ops[i]? with
  | some o => (o.after.toList.filter fun e => Region.binds md e).map (·.on)
  | none => []
/-- How many have not come up. -/
def unl : List Bool → Nat
  | [] => 0
  | b :: l => (if b then 0 else 1) + unl l
theorem unl_set : ∀ (l : List Bool) (i : Nat), l[i]? = some false → unl (l.set i true) + 1 = unl l
  | [], i, h => by simp at h
  | b :: l, 0, h => by
    simp at h
    subst h
    simp [unl]; omega
  | b :: l, i + 1, h => by
    simp at h
    have := unl_set l i (by simpa using h)
    simp only [List.set_cons_succ, unl]
    omega
theorem unl_zero : ∀ (l : List Bool) (i : Nat), unl l = 0 → l[i]? ≠ some false
  | [], i, _ => by simp
  | b :: l, 0, h => by
    cases b
    · simp [unl] at h
    · simp
  | b :: l, i + 1, h => by
    simp only [unl] at h
    have := unl_zero l i (by omega)
    simpa using this
/-- What must come true anew when an operation has come up. -/
def StepsI (P : Program) (md : Region.Mode) (ops : Array Oper) (Q : Exit → Act → World → Prop) (S : World → Prop) (I : (Nat → Bool) → Act → World → Prop) (todo : List Nat) : Prop :=
  ∀ i ∈ todo, ∀ (L : Nat → Bool) (a : Act) (w : World), I L a w → S w → L i = false → (∀ j ∈ depsOf md ops i, L j = true) → wpOp P ops Q i (fun a' w' => S w' ∧ I (fun j => (j == i) || L j) a' w') a w
theorem StepsI.nil {P : Program} {md : Region.Mode} {ops : Array Oper} {Q : Exit → Act → World → Prop} {S : World → Prop} {I : (Nat → Bool) → Act → World → Prop} : StepsI P md ops Q S I [] := fun _ h => by cases h
theorem StepsI.cons {P : Program} {md : Region.Mode} {ops : Array Oper} {Q : Exit → Act → World → Prop} {S : World → Prop} {I : (Nat → Bool) → Act → World → Prop} {i : Nat} {o : Oper} {todo : List Nat} (ds : List Nat) (ho : ops[i]? = some o) (hd : (ds.all fun j => (depsOf md ops i).contains j) = true)
    (h : ∀ (L : Nat → Bool) (a : Act) (w : World), I L a w → S w → L i = false → (∀ j ∈ ds, L j = true) → ∀ K : Act → World → Prop, Shut (∀ a w, S w → I (fun j => (j == i) || L j) a w → K a w) → if Region.wanted o (yielded ops a.tmps) = true then Oper.wp P o a w K Q else K (a.put o.dst undef) w)
    (hs : StepsI P md ops Q S I todo) : StepsI P md ops Q S I (i :: todo) := fun j hj => by
  rcases List.mem_cons.1 hj with rfl | hj
  · intro L a w hI hS hL hdep
    exact wpOp_step ho (fun K' hK => h L a w hI hS hL (fun j hj => hdep j (by have := List.all_eq_true.1 hd j hj; simpa using this)) K' (fun a w h1 h2 => hK a w ⟨h1, h2⟩))
  · exact hs j hj
theorem all_listed {md : Region.Mode} {ops : Array Oper} {listed : Array Bool} (hsz : listed.size = ops.size) (hac : ∀ i, i < ops.size → listed.getD i true = false → ∀ j ∈ depsOf md ops i, j < i)
    (hr : Region.ready md ops listed = []) : ∀ i, listed.getD i true = true := by
  intro i
  induction i using Nat.strongRecOn with
  | ind i ih =>
    cases hi : listed.getD i true with
    | true => rfl
    | false =>
      exfalso
      have hlt : i < ops.size := by
        rcases Nat.lt_or_ge i ops.size with h | h
        · exact h
        · rw [Array.getD_eq_getD_getElem?, Array.getElem?_eq_none (by omega)] at hi; simp at hi
      have hm : i ∈ Region.ready md ops listed := by
        refine mem_ready.2 ⟨hi, ops[i], Array.getElem?_eq_getElem hlt, fun e he hb => ?_⟩
        have hj : e.on < i := by
          refine hac i hlt hi e.on ?_
          unfold depsOf
          rw [Array.getElem?_eq_getElem hlt]
          exact List.mem_map.2 ⟨e, List.mem_filter.2 ⟨by simpa using he, hb⟩, rfl⟩
        have h1 := ih e.on hj
        rw [Array.getD_eq_getD_getElem?, Array.getElem?_eq_getElem (by omega)] at h1 ⊢
        exact h1
      rw [hr] at hm
      cases hm
theorem wpAnyH_inv_aux {P : Program} {md : Region.Mode} {ops : Array Oper} {Q : Exit → Act → World → Prop} {S : World → Prop} (I : (Nat → Bool) → Act → World → Prop) (todo : List Nat)
    (hac : ∀ i ∈ todo, ∀ j ∈ depsOf md ops i, j < i) (hsteps : StepsI P md ops Q S I todo) (hdone : ∀ L a w, I L a w → S w → (∀ j ∈ todo, L j = true) → Q .normal a w) :
    ∀ (fuel : Nat) (listed : Array Bool) (a : Act) (w : World), listed.size = ops.size → unl listed.toList ≤ fuel → (∀ i, listed.getD i true = false → i ∈ todo) → I (fun j => listed.getD j true) a w → S w → wpAnyH P md ops Q S fuel listed a w := by
  intro fuel
  induction fuel with
  | zero =>
    intro listed a w hsz hu ht hI hS
    have hall : ∀ i, listed.getD i true = true := fun i => by
      have := unl_zero listed.toList i (by omega)
      rw [Array.getD_eq_getD_getElem?]
      rw [Array.getElem?_toList] at this
      cases h : listed[i]? with
      | none => rfl
      | some b => cases b with
        | true => rfl
        | false => exact absurd h this
    refine ⟨?_, hdone _ a w hI hS (fun j _ => hall j)⟩
    refine List.eq_nil_iff_forall_not_mem.2 fun i hi => ?_
    have := (mem_ready.1 hi).1
    rw [hall i] at this
    cases this
  | succ fuel ih =>
    intro listed a w hsz hu ht hI hS
    refine ⟨fun hr => hdone _ a w hI hS (fun j _ => all_listed hsz (fun i _ hi => hac i (ht i hi)) hr j), fun i hi => ?_⟩
    obtain ⟨hun, o, ho, hdep⟩ := mem_ready.1 hi
    have hlt : i < ops.size := (Array.getElem?_eq_some_iff.1 ho).1
    refine wpOp_mono (fun a' w' h => ⟨h.1, ih (listed.setIfInBounds i true) a' w' (by simpa using hsz) ?_ ?_ ?_ h.1⟩) (hsteps i (ht i hun) _ a w hI hS hun ?_)
    · have h1 : listed.toList[i]? = some false := by
        rw [Array.getElem?_toList]
        rw [Array.getD_eq_getD_getElem?, Array.getElem?_eq_getElem (by omega)] at hun
        rw [Array.getElem?_eq_getElem (by omega)]
        simpa using hun
      have h2 := unl_set listed.toList i h1
      rw [Array.toList_setIfInBounds]
      omega
    · intro j hj
      by_cases hij : i = j
      · subst hij; exact ht i hun
      · rw [getD_set_ne true hij] at hj; exact ht j hj
    · have e : (fun j => (listed.setIfInBounds i true).getD j true) = (fun j => (j == i) || listed.getD j true) := by
        funext j
        by_cases hij : i = j
        · subst hij
          have : i < listed.size := by omega
          simp [this]
        · rw [getD_set_ne true hij]
          have : (j == i) = false := by rw [beq_eq_false_iff_ne]; omega
          rw [this]; rfl
      rw [e]; exact h.2
    · intro j hj
      unfold depsOf at hj
      rw [ho] at hj
      obtain ⟨e, he, rfl⟩ := List.mem_map.1 hj
      obtain ⟨he1, he2⟩ := List.mem_filter.1 he
      have := hdep e (by simpa using he1) he2
      rw [Array.getD_eq_getD_getElem?] at this ⊢
      cases h : listed[e.on]? with
      | none => rfl
      | some b => rw [h] at this; exact this
/-- From a state of a region on: I holds behind every operation, in whatever order. -/
theorem wpAnyH_inv {P : Program} {md : Region.Mode} {ops : Array Oper} {Q : Exit → Act → World → Prop} {S : World → Prop} {fuel : Nat} {listed : Array Bool} {a : Act} {w : World} (I : (Nat → Bool) → Act → World → Prop) (todo : List Nat)
    (hk : (listed.size == ops.size && decide (unl listed.toList ≤ fuel) && (List.range listed.size).all (fun i => listed.getD i true || todo.contains i) && todo.all (fun i => (depsOf md ops i).all (fun j => decide (j < i)))) = true)
    (hI : I (fun j => listed.getD j true) a w) (hS : S w) (hdone : ∀ L a w, I L a w → S w → (∀ j ∈ todo, L j = true) → Q .normal a w) (hsteps : StepsI P md ops Q S I todo) : wpAnyH P md ops Q S fuel listed a w := by
  simp only [Bool.and_eq_true, beq_iff_eq, decide_eq_true_eq, List.all_eq_true] at hk
  obtain ⟨⟨⟨h1, h2⟩, h3⟩, h4⟩ := hk
  refine wpAnyH_inv_aux I todo (fun i hi j hj => h4 i hi j hj) hsteps hdone fuel listed a w h1 h2 ?_ hI hS
  intro i hi
  have hlt : i < listed.size := by
    rcases Nat.lt_or_ge i listed.size with h | h
    · exact h
    · rw [Array.getD_eq_getD_getElem?, Array.getElem?_eq_none h] at hi; simp at hi
  have := h3 i (List.mem_range.2 hlt)
  rw [hi] at this
  simpa using this
end Go.Proofs.Ytfdfaajjlangjaa
