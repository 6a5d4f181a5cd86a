/-
  digestsOf of the statements of layer 2.
  Lemmas on the statements' lists and their paths.
  Laws of single operations whose outcome gets a name, and of a region whose outcome is said once for all its orders.
  A drawn region walked by an invariant: one proof for each operation, none for the orders.
  A drawn region's outcome said by the slots that it writes; walked by an invariant over what has come up.
  A law of regions that draw their order: all operations but a forced tail are quiet (they read; calls may draw); the tail comes in one order.
-/
import Derived.Test.YteigldfdaciopaaGreatDoorPkC
import Derived.Laws.Tables
import Derived.LoopTactic
import Derived.StillTail
import Derived.Deep.Quiet
import Derived.Deep.QuietTactic
import Derived.BigQuiet
import Derived.Test.YteigldfdaciopaaGreatDoorPkA
set_option linter.unusedVariables false
set_option linter.unusedSimpArgs false
namespace Go.Proofs.YteigldfdaciopaaGreatDoor
open Go.RowKit

/-- The digest that a byte and its place determine. -/
def dig1 (c i : Nat) : List UInt8 := UInt8.ofNat (c % 4) :: UInt8.ofNat (i / 8) :: List.replicate 30 0
def digN (script : List UInt8) (k : Nat) : List (List UInt8) := (List.range k).map fun i => dig1 (script.getD i 0).toNat i
def digs (script : List UInt8) : List (List UInt8) := digN script (min script.length 24)
theorem dig1_len (c i : Nat) : (dig1 c i).length = 32 := by simp [dig1]
theorem digN_snoc (script : List UInt8) (k : Nat) : digN script (k + 1) = digN script k ++ [dig1 (script.getD k 0).toNat k] := by
  simp [digN, List.range_succ]
theorem digN_len (script : List UInt8) (k : Nat) : (digN script k).length = k := by simp [digN]
theorem digs_len (script : List UInt8) : (digs script).length ≤ 24 := by unfold digs; rw [digN_len]; omega
theorem dig1_cells (x k : Nat) (hk : k / 8 < 256) : bvA (dig1 x k) = #[.int .u8 ((x : Int) % 4), .int .u8 ((k : Int) / 8), .int .u8 0, .int .u8 0, .int .u8 0, .int .u8 0, .int .u8 0, .int .u8 0, .int .u8 0, .int .u8 0, .int .u8 0, .int .u8 0, .int .u8 0, .int .u8 0, .int .u8 0, .int .u8 0, .int .u8 0, .int .u8 0, .int .u8 0, .int .u8 0, .int .u8 0, .int .u8 0, .int .u8 0, .int .u8 0, .int .u8 0, .int .u8 0, .int .u8 0, .int .u8 0, .int .u8 0, .int .u8 0, .int .u8 0, .int .u8 0] := by
  have h1 : (Value.int .u8 ((x : Int) % 4)) = bv (UInt8.ofNat (x % 4)) := by rw [bv_ofNat _ (by omega)]; congr 1
  have h2 : (Value.int .u8 ((k : Int) / 8)) = bv (UInt8.ofNat (k / 8)) := by rw [bv_ofNat _ hk]; congr 1
  rw [h1, h2]; rfl
theorem OwnD.empty {B : Nat} {w : World} (hB : B ≤ w.heap.size) : OwnD B (w.alloc (.cells #[] 69)) (.slice (some ⟨w.heap.size, 0, none⟩) 0 0) [] :=
  ⟨fun _ h => (by cases h), rfl, .inr ⟨w.heap.size, 0, #[], rfl, hB, heap_alloc_new w _, Nat.le_refl _, Nat.zero_le _, rfl, rfl⟩⟩

end Go.Proofs.YteigldfdaciopaaGreatDoor

namespace Go.Proofs.YteigldfdaciopaaGreatDoor
open Go.RowKit

theorem digs_32 (script : List UInt8) : ∀ d ∈ digs script, d.length = 32 := by
  intro d hd
  unfold digs digN at hd
  obtain ⟨i, _, rfl⟩ := List.mem_map.1 hd
  exact dig1_len _ _
theorem OwnD.rdOf {B : Nat} {w : World} {a : Option Addr} {n cap : Nat} {l : List (List UInt8)} (h : OwnD B w (.slice a n cap) l) : RdD w.heap.size w a l ∧ l.length ≤ cap ∧ cap ≤ maxLen ∧ (a = none → cap = 0) := by
  obtain ⟨a', cap', e, h1, h2, h3, h4⟩ := h.form
  injection e with e1 e2 e3
  rw [e1, e3]; exact ⟨h4, h1, h2, h3⟩
/-- Paths of lists of up to 24 elements. -/
theorem lenS_24 : ∀ n, n < 25 → ∀ at_, at_ < n → lenS at_ n ≤ 5 := by
  have hl : ∀ (j at_ n : Nat), at_ < n → n ≤ 2 ^ j → lenS at_ n ≤ j := by
    intro j
    induction j with
    | zero => intro at_ n h1 h2; rw [lenS_one _ _ (by omega)]; omega
    | succ j ih =>
      intro at_ n h1 h2
      by_cases h : n < 2
      · rw [lenS_one _ _ h]; omega
      · have hb := half_bd n (by omega)
        have hle : half n ≤ 2 ^ j := by
          unfold half
          refine Nat.pow_le_pow_right (by decide) ?_
          have := (Nat.log2_lt (n := n - 1) (k := j + 1) (by omega)).2 (by omega)
          omega
        by_cases ha : at_ < half n
        · rw [lenS_lo _ _ (by omega) ha]; have := ih at_ (half n) ha hle; omega
        · rw [lenS_hi _ _ (by omega) (by omega)]; have := ih (at_ - half n) (n - half n) (by omega) (by omega); omega
  intro n hn at_ ha
  exact hl 5 at_ n ha (by omega)

end Go.Proofs.YteigldfdaciopaaGreatDoor

namespace Go.Proofs.YteigldfdaciopaaGreatDoor
open Go.RowKit
set_option linter.unusedVariables false
set_option linter.unusedSimpArgs false

/-- A region whose outcome is said once for all its orders. -/
theorem region_mid {P : Program} {c : Code} {K : Act → World → Prop} {Q : Exit → Act → World → Prop} {a : Act} {w : World} (F : Act → World → Prop) (hK : ∀ a' w', F a' w' → K a' w')
    (h : c.wp P (fun e a' w' => e = .normal ∧ F a' w') a w) : c.wp P (Exit.then K Q) a w :=
  Code.wp_mono (fun e a' w' h => by obtain ⟨rfl, h⟩ := h; exact hK _ _ h) h
theorem wp_storeA {P : Program} {o : Oper} {a : Act} {w : World} {K : Act → World → Prop} {Q : Exit → Act → World → Prop} (ty : TypeId) (x y : Operand) (ho : o.op = .store ty x y)
    (g : Nat) (cells : Array Value) (hx : a.eval x = .pointer (some ⟨g, 0, none⟩)) (hy : a.eval y = .agg cells)
    (t : TypeId) (old : Array Value) (hg : w.heap[g]? = some (.cells old t (0, 0))) (hi : (P.info? ty).map (·.size) = some cells.size)
    (hold : old.size = cells.size) (h1 : cells.all (·.oneCell') = true)
    (h : ∀ w', w'.heap[g]? = some (.cells cells t (0, 0)) → w.grownBy w' (some g) → K (a.put o.dst undef) w') : o.wp P a w K Q :=
  wp_store_row ty x y ho g cells hx hy t old hg hi hold h1 (h _ (setRow_heap w g _ _ t _ hg) ⟨rfl, rfl, rfl, by simp [World.setRow], fun k hk hn => setRow_other w g k _ (fun e => hn (by rw [e]))⟩)
theorem wp_allocA {o : Oper} {a : Act} {w : World} {K : Act → World → Prop} {Q : Exit → Act → World → Prop} (ho : o.op = .alloc 69)
    (h : ∀ w' g, BB w' g 69 (List.replicate 32 0) → w.heap.size ≤ g → Below w.heap.size w w' → K (a.put o.dst (.pointer (some ⟨g, 0, none⟩))) w') : o.wp Tryz.prog a w K Q := by
  have hh := h (w.alloc (.cells (bvA (List.replicate 32 0)) 69)) w.heap.size (BB.new w _ _) (Nat.le_refl _) ((Below.refl _ _).alloc (Nat.le_refl _) _)
  unfold Oper.wp execOp
  have hr : (Instr.alloc 69 true (.tuple #[])).run Tryz.prog w = .ok (.pointer (some ⟨w.heap.size, 0, none⟩)) (w.alloc (.cells (bvA (List.replicate 32 0)) 69)) := by kernel_rfl
  simp only [ho, Sem.run_bind, Sem.run_pure, Result.andThen_ok, hr]
  exact hh

/-- A guarded load of a whole array, where the guard lets it run. -/
theorem wpList_load_midG {P : Program} {ops : Array Oper} {rest : List Oper} {op : Oper} {a : Act} {w : World} {Q : Exit → Act → World → Prop} (hw : Region.wanted op (yielded ops a.tmps) = true) (ty : TypeId) (x : Operand) (ho : op.op = .load ty x)
    (b o : Nat) (hx : a.eval x = .pointer (some ⟨b, o, none⟩)) (cs : List Value) (d : TypeDesc) (hc : w.rangeAt b o cs)
    (hu : P.underlying ty = some d) (hd : d.isRow = true) (hi : (P.info? ty).map (·.size) = some cs.length)
    (h : wpList P ops Q rest (a.put op.dst (.agg cs.toArray)) w) : wpList P ops Q (op :: rest) a w :=
  wpList_step fun K hK => by rw [if_pos hw]; exact wp_load_mid ty x ho b o hx cs d hc hu hd hi (hK _ _ h)
end Go.Proofs.YteigldfdaciopaaGreatDoor

namespace Go.Proofs.YteigldfdaciopaaGreatDoor
open Go.RowKit
set_option linter.unusedVariables false
set_option linter.unusedSimpArgs false

def depsOf (md : Region.Mode) (ops : Array Oper) (i : Nat) : List Nat :=
  match ops[i]? with
  | some o => (o.after.toList.filter fun e => Region.binds md e).map (·.on)
  | none => []
/-- How many have not come up. -/
def unl : List Bool → Nat
  | [] => 0
  | b :: l => (if b then 0 else 1) + unl l
theorem unl_set : ∀ (l : List Bool) (i : Nat), l[i]? = some false → unl (l.set i true) + 1 = unl l
  | [], i, h => by simp at h
  | b :: l, 0, h => by
    simp at h
    subst h
    simp [unl]; omega
  | b :: l, i + 1, h => by
    simp at h
    have := unl_set l i (by simpa using h)
    simp only [List.set_cons_succ, unl]
    omega
theorem unl_zero : ∀ (l : List Bool) (i : Nat), unl l = 0 → l[i]? ≠ some false
  | [], i, _ => by simp
  | b :: l, 0, h => by
    cases b
    · simp [unl] at h
    · simp
  | b :: l, i + 1, h => by
    simp only [unl] at h
    have := unl_zero l i (by omega)
    simpa using this
/-- What must come true anew when an operation has come up. -/
def StepsI (P : Program) (md : Region.Mode) (ops : Array Oper) (Q : Exit → Act → World → Prop) (S : World → Prop) (I : (Nat → Bool) → Act → World → Prop) (todo : List Nat) : Prop :=
  ∀ i ∈ todo, ∀ (L : Nat → Bool) (a : Act) (w : World), I L a w → S w → L i = false → (∀ j ∈ depsOf md ops i, L j = true) → wpOp P ops Q i (fun a' w' => S w' ∧ I (fun j => (j == i) || L j) a' w') a w
theorem StepsI.nil {P : Program} {md : Region.Mode} {ops : Array Oper} {Q : Exit → Act → World → Prop} {S : World → Prop} {I : (Nat → Bool) → Act → World → Prop} : StepsI P md ops Q S I [] := fun _ h => by cases h
theorem StepsI.cons {P : Program} {md : Region.Mode} {ops : Array Oper} {Q : Exit → Act → World → Prop} {S : World → Prop} {I : (Nat → Bool) → Act → World → Prop} {i : Nat} {o : Oper} {todo : List Nat} (ds : List Nat) (ho : ops[i]? = some o) (hd : (ds.all fun j => (depsOf md ops i).contains j) = true)
    (h : ∀ (L : Nat → Bool) (a : Act) (w : World), I L a w → S w → L i = false → (∀ j ∈ ds, L j = true) → ∀ K : Act → World → Prop, Shut (∀ a w, S w → I (fun j => (j == i) || L j) a w → K a w) → if Region.wanted o (yielded ops a.tmps) = true then Oper.wp P o a w K Q else K (a.put o.dst undef) w)
    (hs : StepsI P md ops Q S I todo) : StepsI P md ops Q S I (i :: todo) := fun j hj => by
  rcases List.mem_cons.1 hj with rfl | hj
  · intro L a w hI hS hL hdep
    exact wpOp_step ho (fun K' hK => h L a w hI hS hL (fun j hj => hdep j (by have := List.all_eq_true.1 hd j hj; simpa using this)) K' (fun a w h1 h2 => hK a w ⟨h1, h2⟩))
  · exact hs j hj
theorem all_listed {md : Region.Mode} {ops : Array Oper} {listed : Array Bool} (hsz : listed.size = ops.size) (hac : ∀ i, i < ops.size → listed.getD i true = false → ∀ j ∈ depsOf md ops i, j < i)
    (hr : Region.ready md ops listed = []) : ∀ i, listed.getD i true = true := by
  intro i
  induction i using Nat.strongRecOn with
  | ind i ih =>
    cases hi : listed.getD i true with
    | true => rfl
    | false =>
      exfalso
      have hlt : i < ops.size := by
        rcases Nat.lt_or_ge i ops.size with h | h
        · exact h
        · rw [Array.getD_eq_getD_getElem?, Array.getElem?_eq_none (by omega)] at hi; simp at hi
      have hm : i ∈ Region.ready md ops listed := by
        refine mem_ready.2 ⟨hi, ops[i], Array.getElem?_eq_getElem hlt, fun e he hb => ?_⟩
        have hj : e.on < i := by
          refine hac i hlt hi e.on ?_
          unfold depsOf
          rw [Array.getElem?_eq_getElem hlt]
          exact List.mem_map.2 ⟨e, List.mem_filter.2 ⟨by simpa using he, hb⟩, rfl⟩
        have h1 := ih e.on hj
        rw [Array.getD_eq_getD_getElem?, Array.getElem?_eq_getElem (by omega)] at h1 ⊢
        exact h1
      rw [hr] at hm
      cases hm
theorem wpAnyH_inv_aux {P : Program} {md : Region.Mode} {ops : Array Oper} {Q : Exit → Act → World → Prop} {S : World → Prop} (I : (Nat → Bool) → Act → World → Prop) (todo : List Nat)
    (hac : ∀ i ∈ todo, ∀ j ∈ depsOf md ops i, j < i) (hsteps : StepsI P md ops Q S I todo) (hdone : ∀ L a w, I L a w → S w → (∀ j ∈ todo, L j = true) → Q .normal a w) :
    ∀ (fuel : Nat) (listed : Array Bool) (a : Act) (w : World), listed.size = ops.size → unl listed.toList ≤ fuel → (∀ i, listed.getD i true = false → i ∈ todo) → I (fun j => listed.getD j true) a w → S w → wpAnyH P md ops Q S fuel listed a w := by
  intro fuel
  induction fuel with
  | zero =>
    intro listed a w hsz hu ht hI hS
    have hall : ∀ i, listed.getD i true = true := fun i => by
      have := unl_zero listed.toList i (by omega)
      rw [Array.getD_eq_getD_getElem?]
      rw [Array.getElem?_toList] at this
      cases h : listed[i]? with
      | none => rfl
      | some b => cases b with
        | true => rfl
        | false => exact absurd h this
    refine ⟨?_, hdone _ a w hI hS (fun j _ => hall j)⟩
    refine List.eq_nil_iff_forall_not_mem.2 fun i hi => ?_
    have := (mem_ready.1 hi).1
    rw [hall i] at this
    cases this
  | succ fuel ih =>
    intro listed a w hsz hu ht hI hS
    refine ⟨fun hr => hdone _ a w hI hS (fun j _ => all_listed hsz (fun i _ hi => hac i (ht i hi)) hr j), fun i hi => ?_⟩
    obtain ⟨hun, o, ho, hdep⟩ := mem_ready.1 hi
    have hlt : i < ops.size := (Array.getElem?_eq_some_iff.1 ho).1
    refine wpOp_mono (fun a' w' h => ⟨h.1, ih (listed.setIfInBounds i true) a' w' (by simpa using hsz) ?_ ?_ ?_ h.1⟩) (hsteps i (ht i hun) _ a w hI hS hun ?_)
    · have h1 : listed.toList[i]? = some false := by
        rw [Array.getElem?_toList]
        rw [Array.getD_eq_getD_getElem?, Array.getElem?_eq_getElem (by omega)] at hun
        rw [Array.getElem?_eq_getElem (by omega)]
        simpa using hun
      have h2 := unl_set listed.toList i h1
      rw [Array.toList_setIfInBounds]
      omega
    · intro j hj
      by_cases hij : i = j
      · subst hij; exact ht i hun
      · rw [getD_set_ne true hij] at hj; exact ht j hj
    · have e : (fun j => (listed.setIfInBounds i true).getD j true) = (fun j => (j == i) || listed.getD j true) := by
        funext j
        by_cases hij : i = j
        · subst hij
          have : i < listed.size := by omega
          simp [this]
        · rw [getD_set_ne true hij]
          have : (j == i) = false := by rw [beq_eq_false_iff_ne]; omega
          rw [this]; rfl
      rw [e]; exact h.2
    · intro j hj
      unfold depsOf at hj
      rw [ho] at hj
      obtain ⟨e, he, rfl⟩ := List.mem_map.1 hj
      obtain ⟨he1, he2⟩ := List.mem_filter.1 he
      have := hdep e (by simpa using he1) he2
      rw [Array.getD_eq_getD_getElem?] at this ⊢
      cases h : listed[e.on]? with
      | none => rfl
      | some b => rw [h] at this; exact this
/-- From a state of a region on: I holds behind every operation, in whatever order. -/
theorem wpAnyH_inv {P : Program} {md : Region.Mode} {ops : Array Oper} {Q : Exit → Act → World → Prop} {S : World → Prop} {fuel : Nat} {listed : Array Bool} {a : Act} {w : World} (I : (Nat → Bool) → Act → World → Prop) (todo : List Nat)
    (hk : (listed.size == ops.size && decide (unl listed.toList ≤ fuel) && (List.range listed.size).all (fun i => listed.getD i true || todo.contains i) && todo.all (fun i => (depsOf md ops i).all (fun j => decide (j < i)))) = true)
    (hI : I (fun j => listed.getD j true) a w) (hS : S w) (hdone : ∀ L a w, I L a w → S w → (∀ j ∈ todo, L j = true) → Q .normal a w) (hsteps : StepsI P md ops Q S I todo) : wpAnyH P md ops Q S fuel listed a w := by
  simp only [Bool.and_eq_true, beq_iff_eq, decide_eq_true_eq, List.all_eq_true] at hk
  obtain ⟨⟨⟨h1, h2⟩, h3⟩, h4⟩ := hk
  refine wpAnyH_inv_aux I todo (fun i hi j hj => h4 i hi j hj) hsteps hdone fuel listed a w h1 h2 ?_ hI hS
  intro i hi
  have hlt : i < listed.size := by
    rcases Nat.lt_or_ge i listed.size with h | h
    · exact h
    · rw [Array.getD_eq_getD_getElem?, Array.getElem?_eq_none h] at hi; simp at hi
  have := h3 i (List.mem_range.2 hlt)
  rw [hi] at this
  simpa using this
end Go.Proofs.YteigldfdaciopaaGreatDoor

namespace Go.Proofs.YteigldfdaciopaaGreatDoor
open Go.RowKit
set_option linter.unusedVariables false
set_option linter.unusedSimpArgs false

/-- The frame with these slots written anew. -/
def writes (a : Act) (slots : List Nat) (f : Nat → Value) : Act := slots.foldl (fun a i => a.put (some i) (f i)) a
theorem region_writes {P : Program} {c : Code} {K : Act → World → Prop} {Q : Exit → Act → World → Prop} {a : Act} {w : World} (slots : List Nat) (G : (Nat → Value) → World → Prop) (hK : ∀ f w', G f w' → K (writes a slots f) w')
    (h : c.wp P (fun e a' w' => e = .normal ∧ ∃ f, a' = writes a slots f ∧ G f w') a w) : c.wp P (Exit.then K Q) a w :=
  Code.wp_mono (fun e a' w' h => by obtain ⟨rfl, f, rfl, h⟩ := h; exact hK _ _ h) h
theorem writes_ex {a' a : Act} {slots : List Nat} {G : (Nat → Value) → Prop} (h : a' = writes a slots (fun i => a'.tmps.getD i undef)) (hG : G (fun i => a'.tmps.getD i undef)) : ∃ f, a' = writes a slots f ∧ G f := ⟨_, h, hG⟩
theorem wpAnyH_writes {P : Program} {md : Region.Mode} {ops : Array Oper} {Q : Exit → Act → World → Prop} {S : World → Prop} {fuel : Nat} {listed : Array Bool} {a : Act} {w : World} (slots : List Nat) (J : (Nat → Bool) → (Nat → Value) → World → Prop) (todo : List Nat)
    (hk : (listed.size == ops.size && decide (unl listed.toList ≤ fuel) && (List.range listed.size).all (fun i => listed.getD i true || todo.contains i) && todo.all (fun i => (depsOf md ops i).all (fun j => decide (j < i)))) = true)
    (ha : a = writes a slots (fun i => a.tmps.getD i undef)) (hJ : J (fun j => listed.getD j true) (fun i => a.tmps.getD i undef) w) (hS : S w)
    (hdone : ∀ L f w, J L f w → S w → (∀ j ∈ todo, L j = true) → Q .normal (writes a slots f) w)
    (hsteps : StepsI P md ops Q S (fun L a' w => ∃ f, a' = writes a slots f ∧ J L f w) todo) : wpAnyH P md ops Q S fuel listed a w :=
  wpAnyH_inv (fun L a' w => ∃ f, a' = writes a slots f ∧ J L f w) todo hk ⟨_, ha, hJ⟩ hS (fun L a' w ⟨f, e, h⟩ hS hall => by rw [e]; exact hdone L f w h hS hall) hsteps
end Go.Proofs.YteigldfdaciopaaGreatDoor

namespace Go.Proofs.YteigldfdaciopaaGreatDoor
open Go.RowKit
set_option linter.unusedVariables false

section
variable {P : Program} {ops hd : Array Oper} {md : Region.Mode} {C : World → Prop}

/-- The head's operations wait for earlier ones alone, and none is guarded. -/
def headB (ops : Array Oper) (n : Nat) : Bool := (List.range n).all fun i => match ops[i]? with
  | some o => o.guard.isNone && o.after.all fun e => decide (e.on < i)
  | none => false
theorem headB_spec {n i : Nat} {o : Oper} (h : headB ops n = true) (hi : i < n) (ho : ops[i]? = some o) : o.guard = none ∧ ∀ e ∈ o.after, e.on < i := by
  have h1 := List.all_eq_true.1 h i (List.mem_range.2 hi)
  rw [ho] at h1
  simp only [Bool.and_eq_true, Option.isNone_iff_eq_none] at h1
  exact ⟨h1.1, fun e he => of_decide_eq_true ((Array.all_eq_true_iff_forall_mem.1 h1.2) e he)⟩

/-- What has come up of the whole and of the head are the same. -/
structure Both (md : Region.Mode) (ops : Array Oper) (n : Nat) (L L' : Array Bool) : Prop where
  inv : HeadInv md ops n L
  size : L'.size = n
  same : ∀ i, i < n → L.getD i true = L'.getD i true
theorem both_false {n i : Nat} {L L' : Array Bool} (h : Both md ops n L L') (hn : n < ops.size) (hi : i < n) : L.getD i false = L'.getD i false := by
  have h1 := h.same i hi
  have h2 := h.inv.size
  have h3 := h.size
  rw [Array.getD_eq_getD_getElem?, Array.getD_eq_getD_getElem?, Array.getElem?_eq_getElem (by omega), Array.getElem?_eq_getElem (by omega)] at *
  simpa using h1

theorem qOp_widen {i : Nat} {K : Act → Prop} {a : Act} (hi : hd[i]? = ops[i]?) (hg : ∀ o, ops[i]? = some o → o.guard = none) (h : qOp P hd C i K a) : qOp P ops C i K a := by
  unfold qOp at *
  rw [hi] at h
  split
  · rename_i ho; rw [ho] at h; exact h
  · rename_i o ho
    rw [ho] at h
    have hw : ∀ f, Region.wanted o f = true := fun f => by simp [Region.wanted, hg o ho]
    simp only [hw, if_true] at h ⊢
    exact h

theorem wpAny_of_quietTail {n : Nat} {tail : List Oper} {Q : Exit → Act → World → Prop} (hs : Region.sinkB md ops n = true) (hc : Region.chainB md ops n = true) (hn : n < ops.size) (hb : headB ops n = true)
    (hhd : ∀ i, i < n → hd[i]? = ops[i]?) (hhs : hd.size = n) (htl : ∀ j, tail[j]? = ops[n + j]?)
    (hseq : ∀ L : Array Bool, L.size = ops.size → (∀ i, i < n → L.getD i true = true) → (∀ t, n ≤ t → t < ops.size → L.getD t true = false) → Region.seqB md ops tail.length n L = true) :
    ∀ (f : Nat) (L L' : Array Bool) (a : Act) (w : World), Both md ops n L L' → ((List.range n).countP fun i => !L.getD i true) = f → C w →
      wpAnyQ P md hd C (fun a' => ∀ w', C w' → wpList P ops Q tail a' w') f L' a → wpAny P md ops Q (f + tail.length) L a w
  | 0, L, L', a, w, hB, hk, hC, h => by
    rw [Nat.zero_add]
    refine wpAny_of_seq tail n L a w htl (hseq L hB.inv.size (fun i hi => ?_) hB.inv.tail) (h.2 w hC)
    rw [List.countP_eq_zero] at hk
    have := hk i (List.mem_range.2 hi)
    simpa using this
  | f + 1, L, L', a, w, hB, hk, hC, h => by
    rw [show f + 1 + tail.length = (f + tail.length) + 1 by omega]
    -- some operation of the head has not come up
    obtain ⟨i0, hi0, hu0⟩ : ∃ i, i < n ∧ L.getD i true = false := by
      have hpos : 0 < (List.range n).countP fun i => !L.getD i true := by omega
      obtain ⟨i, hi, hu⟩ := List.countP_pos_iff.1 hpos
      exact ⟨i, List.mem_range.1 hi, by simpa using hu⟩
    have htw := tail_waits hs hc hn hB.inv _ i0 rfl hi0 hu0
    have hle : ∀ i ∈ Region.ready md ops L, i < n := fun i hi => by
      rcases Nat.lt_or_ge i n with h1 | h1
      · exact h1
      · exact absurd hi (htw i h1)
    have hrd : ∀ i, i < n → (i ∈ Region.ready md ops L ↔ i ∈ Region.ready md hd L') := fun i hi => by
      rw [mem_ready, mem_ready, hB.same i hi, hhd i hi]
      refine and_congr Iff.rfl ⟨fun ⟨o, ho, hall⟩ => ⟨o, ho, fun e he hbd => ?_⟩, fun ⟨o, ho, hall⟩ => ⟨o, ho, fun e he hbd => ?_⟩⟩
      · rw [← both_false hB hn (by have := (headB_spec hb hi ho).2 e he; omega)]; exact hall e he hbd
      · rw [both_false hB hn (by have := (headB_spec hb hi ho).2 e he; omega)]; exact hall e he hbd
    refine ⟨fun h0 => ?_, fun i hi => ?_⟩
    · -- the first that has not come up may
      exfalso
      have : ∃ i, i < n ∧ L.getD i true = false ∧ ∀ j, j < i → L.getD j true = true := by
        clear hu0 htw
        have hex : ∃ i, i < n ∧ L.getD i true = false := by
          have hpos : 0 < (List.range n).countP fun i => !L.getD i true := by omega
          obtain ⟨i, hi, hu⟩ := List.countP_pos_iff.1 hpos
          exact ⟨i, List.mem_range.1 hi, by simpa using hu⟩
        obtain ⟨i, hi, hu⟩ := hex
        induction i using Nat.strongRecOn with
        | _ i ih =>
          by_cases hall : ∀ j, j < i → L.getD j true = true
          · exact ⟨i, hi, hu, hall⟩
          · obtain ⟨j, hj⟩ := Classical.not_forall.1 hall
            obtain ⟨hj1, hj2⟩ := Classical.not_imp.1 hj
            exact ih j hj1 (by omega) (by simpa using hj2)
      obtain ⟨i, hi, hu, hall⟩ := this
      have hmem : i ∈ Region.ready md ops L := by
        have hlt : i < ops.size := by omega
        refine mem_ready.2 ⟨hu, ops[i], Array.getElem?_eq_getElem hlt, fun e he hbd => ?_⟩
        have h1 := (headB_spec hb hi (Array.getElem?_eq_getElem hlt)).2 e he
        have h2 := hall e.on h1
        have h3 := hB.inv.size
        rw [Array.getD_eq_getD_getElem?, Array.getElem?_eq_getElem (by omega)] at h2 ⊢
        simpa using h2
      rw [h0] at hmem
      cases hmem
    · have hin := hle i hi
      have hq := qOp_widen (hhd i hin) (fun o ho => (headB_spec hb hin ho).1) (h.2 i ((hrd i hin).1 hi))
      have hun := (mem_ready.1 hi).1
      have hsz := hB.inv.size
      refine wpOp_of_qOp hC (fun a' w' hC' h' => wpAny_of_quietTail hs hc hn hb hhd hhs htl hseq f _ (L'.setIfInBounds i true) a' w' ⟨hB.inv.set hi hin, by rw [Array.size_setIfInBounds]; exact hB.size, fun j hj => ?_⟩ ?_ hC' h') hq
      · by_cases hij : i = j
        · subst hij
          rw [Array.getD_eq_getD_getElem?, Array.getD_eq_getD_getElem?, Array.getElem?_setIfInBounds_self_of_lt (by omega), Array.getElem?_setIfInBounds_self_of_lt (by have := hB.size; omega)]
        · rw [getD_set_ne true hij, getD_set_ne true hij]; exact hB.same j hj
      · -- one less has not come up
        have key : ∀ m, m ≤ n → ((List.range m).countP fun j => !L.getD j true) = ((List.range m).countP fun j => !(L.setIfInBounds i true).getD j true) + (if i < m then 1 else 0) := by
          intro m
          induction m with
          | zero => intro _; simp
          | succ m ih =>
            intro hm
            rw [List.range_succ, List.countP_append, List.countP_append, ih (by omega)]
            by_cases him : i = m
            · subst him
              have e : (L.setIfInBounds i true).getD i true = true := by
                rw [Array.getD_eq_getD_getElem?, Array.getElem?_setIfInBounds_self_of_lt (by omega)]; rfl
              simp only [List.countP_singleton, hun, e]
              simp
            · rw [List.countP_singleton, List.countP_singleton, getD_set_ne true him]
              by_cases h1 : i < m
              · simp only [if_pos h1, if_pos (by omega : i < m + 1)]; omega
              · simp only [if_neg h1, if_neg (by omega : ¬ i < m + 1)]; omega
        have := key n (Nat.le_refl _)
        rw [if_pos hin] at this
        omega
end

/-- All that the kernel is asked of the region. -/
def quietTailB (md : Region.Mode) (l : List Oper) (n : Nat) : Bool :=
  decide (n < l.length) && Region.sinkB md l.toArray n && Region.chainB md l.toArray n && headB l.toArray n &&
    (Region.noSelect (l.take n).toArray && Region.lexFrom md (l.take n).toArray n 0 (Array.replicate n false)) && Region.seqB md l.toArray (l.length - n) n (Array.replicate n true ++ Array.replicate (l.length - n) false)

/-- The region: the head quiet, the tail in its order. -/
theorem wp_region_quiet_tail {P : Program} {id : Nat} {Q : Exit → Act → World → Prop} {a : Act} {w : World} {l : List Oper} (n : Nat) (hm : P.follows .mixedOrders = true) (hB : quietTailB .any l n = true)
    (h : wpQuiet P (l.take n).toArray (fun w' => ∃ k, w' = w.drewN k) (fun a' => ∀ w', (∃ k, w' = w.drewN k) → wpList P l.toArray Q (l.drop n) a' w') (l.take n) a) : (Code.region id l.toArray true).wp P Q a w := by
  simp only [quietTailB, Bool.and_eq_true, decide_eq_true_eq] at hB
  obtain ⟨⟨⟨⟨⟨hn, hs⟩, hc⟩, hb⟩, hsel, hlex⟩, hseq⟩ := hB
  have hsz : l.toArray.size = l.length := by simp
  have hq := wpAnyQ_lex (P := P) (C := fun w' => ∃ k, w' = w.drewN k) (md := .any) hsel (l.take n) 0 (Array.replicate n false) a (by simp) (by rw [List.length_take, Nat.min_eq_left (by omega)]; exact hlex) h
  rw [List.length_take, Nat.min_eq_left (by omega)] at hq
  have inv0 : HeadInv .any l.toArray n (Array.replicate l.toArray.size false) :=
    ⟨by simp, fun j oj _ hl => (by rw [getD_replicate_false] at hl; cases hl), fun t _ ht => getD_in (by simpa using ht) (getD_replicate_false _ _)⟩
  refine wp_region_any hm ?_
  have := wpAny_of_quietTail (P := P) (C := fun w' => ∃ k, w' = w.drewN k) (md := .any) (ops := l.toArray) (hd := (l.take n).toArray) (n := n) (tail := l.drop n) (Q := Q) hs hc (by omega) hb
    (fun i hi => by simp [hi]) (by simp; omega) (fun j => by simp)
    (fun L h1 h2 h3 => by
      have : L = Array.replicate n true ++ Array.replicate (l.length - n) false := by
        apply Array.ext
        · simp; omega
        · intro i hi1 hi2
          by_cases h : i < n
          · have := h2 i h
            rw [Array.getD_eq_getD_getElem?, Array.getElem?_eq_getElem hi1] at this
            rw [Array.getElem_append_left (by simpa using h), Array.getElem_replicate]
            simpa using this
          · have := h3 i (by omega) (by omega)
            rw [Array.getD_eq_getD_getElem?, Array.getElem?_eq_getElem hi1] at this
            rw [Array.getElem_append_right (by simp; omega), Array.getElem_replicate]
            simpa using this
      rw [this, List.length_drop]; exact hseq)
    n (Array.replicate l.toArray.size false) (Array.replicate n false) a { w with drawn := w.drawn + 1 } ⟨inv0, by simp, fun i hi => by
      rw [Array.getD_eq_getD_getElem?, Array.getD_eq_getD_getElem?, Array.getElem?_eq_getElem (by simp; omega), Array.getElem?_eq_getElem (by simpa using hi)]
      simp⟩
    (by
      have : ∀ m, m ≤ n → ((List.range m).countP fun i => !(Array.replicate l.toArray.size false).getD i true) = m := by
        intro m
        induction m with
        | zero => intro _; rfl
        | succ m ih =>
          intro hm
          rw [List.range_succ, List.countP_append, ih (by omega), List.countP_singleton]
          have : (Array.replicate l.toArray.size false).getD m true = false := getD_in (by simp; omega) (getD_replicate_false _ _)
          rw [this]; rfl
      exact this n (Nat.le_refl _)) ⟨1, rfl⟩ hq
  rwa [List.length_drop, show n + (l.length - n) = l.toArray.size by simp; omega] at this
end Go.Proofs.YteigldfdaciopaaGreatDoor
