/-
  A law of regions that draw their order: all operations but a forced tail are quiet (they read; calls may draw); the tail comes in one order.
-/
import Derived.StillTail
import Derived.Deep.Quiet
import Derived.Deep.QuietTactic
import Derived.BigQuiet
import Derived.Test.YtcibbghggfklbaaDoorPkA
namespace Go.Proofs.YtcibbghggfklbaaDoor
open Go.RowKit
set_option linter.unusedVariables false

section
variable {P : Program} {ops hd : Array Oper} {md : Region.Mode} {C : World → Prop}

/-- The head's operations wait for earlier ones alone, and none is guarded. -/
def headB (ops : Array Oper) (n : Nat) : Bool := (List.range n).all fun i => match ops[i]? with
  | some o => o.guard.isNone && o.after.all fun e => decide (e.on < i)
  | none => false
theorem headB_spec {n i : Nat} {o : Oper} (h : headB ops n = true) (hi : i < n) (ho : ops[i]? = some o) : o.guard = none ∧ ∀ e ∈ o.after, e.on < i := by
  have h1 := List.all_eq_true.1 h i (List.mem_range.2 hi)
  rw [ho] at h1
  simp only [Bool.and_eq_true, Option.isNone_iff_eq_none] at h1
  exact ⟨h1.1, fun e he => of_decide_eq_true ((Array.all_eq_true_iff_forall_mem.1 h1.2) e he)⟩

/-- What has come up of the whole and of the head are the same. -/
structure Both (md : Region.Mode) (ops : Array Oper) (n : Nat) (L L' : Array Bool) : Prop where
  inv : HeadInv md ops n L
  size : L'.size = n
  same : ∀ i, i < n → L.getD i true = L'.getD i true
theorem both_false {n i : Nat} {L L' : Array Bool} (h : Both md ops n L L') (hn : n < ops.size) (hi : i < n) : L.getD i false = L'.getD i false := by
  have h1 := h.same i hi
  have h2 := h.inv.size
  have h3 := h.size
  rw [Array.getD_eq_getD_getElem?, Array.getD_eq_getD_getElem?, Array.getElem?_eq_getElem (by omega), Array.getElem?_eq_getElem (by omega)] at *
  simpa using h1

theorem qOp_widen {i : Nat} {K : Act → Prop} {a : Act} (hi : hd[i]? = ops[i]?) (hg : ∀ o, ops[i]? = some o → o.guard = none) (h : qOp P hd C i K a) : qOp P ops C i K a := by
  unfold qOp at *
  rw [hi] at h
  split
  · rename_i ho; rw [ho] at h; exact h
  · rename_i o ho
    rw [ho] at h
    have hw : ∀ f, Region.wanted o f = true := fun f => by simp [Region.wanted, hg o ho]
    simp only [hw, if_true] at h ⊢
    exact h

theorem wpAny_of_quietTail {n : Nat} {tail : List Oper} {Q : Exit → Act → World → Prop} (hs : Region.sinkB md ops n = true) (hc : Region.chainB md ops n = true) (hn : n < ops.size) (hb : headB ops n = true)
    (hhd : ∀ i, i < n → hd[i]? = ops[i]?) (hhs : hd.size = n) (htl : ∀ j, tail[j]? = ops[n + j]?)
    (hseq : ∀ L : Array Bool, L.size = ops.size → (∀ i, i < n → L.getD i true = true) → (∀ t, n ≤ t → t < ops.size → L.getD t true = false) → Region.seqB md ops tail.length n L = true) :
    ∀ (f : Nat) (L L' : Array Bool) (a : Act) (w : World), Both md ops n L L' → ((List.range n).countP fun i => !L.getD i true) = f → C w →
      wpAnyQ P md hd C (fun a' => ∀ w', C w' → wpList P ops Q tail a' w') f L' a → wpAny P md ops Q (f + tail.length) L a w
  | 0, L, L', a, w, hB, hk, hC, h => by
    rw [Nat.zero_add]
    refine wpAny_of_seq tail n L a w htl (hseq L hB.inv.size (fun i hi => ?_) hB.inv.tail) (h.2 w hC)
    rw [List.countP_eq_zero] at hk
    have := hk i (List.mem_range.2 hi)
    simpa using this
  | f + 1, L, L', a, w, hB, hk, hC, h => by
    rw [show f + 1 + tail.length = (f + tail.length) + 1 by omega]
    -- some operation of the head has not come up
    obtain ⟨i0, hi0, hu0⟩ : ∃ i, i < n ∧ L.getD i true = false := by
      have hpos : 0 < (List.range n).countP fun i => !L.getD i true := by omega
      obtain ⟨i, hi, hu⟩ := List.countP_pos_iff.1 hpos
      exact ⟨i, List.mem_range.1 hi, by simpa using hu⟩
    have htw := tail_waits hs hc hn hB.inv _ i0 rfl hi0 hu0
    have hle : ∀ i ∈ Region.ready md ops L, i < n := fun i hi => by
      rcases Nat.lt_or_ge i n with h1 | h1
      · exact h1
      · exact absurd hi (htw i h1)
    have hrd : ∀ i, i < n → (i ∈ Region.ready md ops L ↔ i ∈ Region.ready md hd L') := fun i hi => by
      rw [mem_ready, mem_ready, hB.same i hi, hhd i hi]
      refine and_congr Iff.rfl ⟨fun ⟨o, ho, hall⟩ => ⟨o, ho, fun e he hbd => ?_⟩, fun ⟨o, ho, hall⟩ => ⟨o, ho, fun e he hbd => ?_⟩⟩
      · rw [← both_false hB hn (by have := (headB_spec hb hi ho).2 e he; omega)]; exact hall e he hbd
      · rw [both_false hB hn (by have := (headB_spec hb hi ho).2 e he; omega)]; exact hall e he hbd
    refine ⟨fun h0 => ?_, fun i hi => ?_⟩
    · -- the first that has not come up may
      exfalso
      have : ∃ i, i < n ∧ L.getD i true = false ∧ ∀ j, j < i → L.getD j true = true := by
        clear hu0 htw
        have hex : ∃ i, i < n ∧ L.getD i true = false := by
          have hpos : 0 < (List.range n).countP fun i => !L.getD i true := by omega
          obtain ⟨i, hi, hu⟩ := List.countP_pos_iff.1 hpos
          exact ⟨i, List.mem_range.1 hi, by simpa using hu⟩
        obtain ⟨i, hi, hu⟩ := hex
        induction i using Nat.strongRecOn with
        | _ i ih =>
          by_cases hall : ∀ j, j < i → L.getD j true = true
          · exact ⟨i, hi, hu, hall⟩
          · obtain ⟨j, hj⟩ := Classical.not_forall.1 hall
            obtain ⟨hj1, hj2⟩ := Classical.not_imp.1 hj
            exact ih j hj1 (by omega) (by simpa using hj2)
      obtain ⟨i, hi, hu, hall⟩ := this
      have hmem : i ∈ Region.ready md ops L := by
        have hlt : i < ops.size := by omega
        refine mem_ready.2 ⟨hu, ops[i], Array.getElem?_eq_getElem hlt, fun e he hbd => ?_⟩
        have h1 := (headB_spec hb hi (Array.getElem?_eq_getElem hlt)).2 e he
        have h2 := hall e.on h1
        have h3 := hB.inv.size
        rw [Array.getD_eq_getD_getElem?, Array.getElem?_eq_getElem (by omega)] at h2 ⊢
        simpa using h2
      rw [h0] at hmem
      cases hmem
    · have hin := hle i hi
      have hq := qOp_widen (hhd i hin) (fun o ho => (headB_spec hb hin ho).1) (h.2 i ((hrd i hin).1 hi))
      have hun := (mem_ready.1 hi).1
      have hsz := hB.inv.size
      refine wpOp_of_qOp hC (fun a' w' hC' h' => wpAny_of_quietTail hs hc hn hb hhd hhs htl hseq f _ (L'.setIfInBounds i true) a' w' ⟨hB.inv.set hi hin, by rw [Array.size_setIfInBounds]; exact hB.size, fun j hj => ?_⟩ ?_ hC' h') hq
      · by_cases hij : i = j
        · subst hij
          rw [Array.getD_eq_getD_getElem?, Array.getD_eq_getD_getElem?, Array.getElem?_setIfInBounds_self_of_lt (by omega), Array.getElem?_setIfInBounds_self_of_lt (by have := hB.size; omega)]
        · rw [getD_set_ne true hij, getD_set_ne true hij]; exact hB.same j hj
      · -- one less has not come up
        have key : ∀ m, m ≤ n → ((List.range m).countP fun j => !L.getD j true) = ((List.range m).countP fun j => !(L.setIfInBounds i true).getD j true) + (if i < m then 1 else 0) := by
          intro m
          induction m with
          | zero => intro _; simp
          | succ m ih =>
            intro hm
            rw [List.range_succ, List.countP_append, List.countP_append, ih (by omega)]
            by_cases him : i = m
            · subst him
              have e : (L.setIfInBounds i true).getD i true = true := by
                rw [Array.getD_eq_getD_getElem?, Array.getElem?_setIfInBounds_self_of_lt (by omega)]; rfl
              simp only [List.countP_singleton, hun, e]
              simp
            · rw [List.countP_singleton, List.countP_singleton, getD_set_ne true him]
              by_cases h1 : i < m
              · simp only [if_pos h1, if_pos (by omega : i < m + 1)]; omega
              · simp only [if_neg h1, if_neg (by omega : ¬ i < m + 1)]; omega
        have := key n (Nat.le_refl _)
        rw [if_pos hin] at this
        omega
end

/-- All that the kernel is asked of the region. -/
def quietTailB (md : Region.Mode) (l : List Oper) (n : Nat) : Bool :=
  decide (n < l.length) && Region.sinkB md l.toArray n && Region.chainB md l.toArray n && headB l.toArray n &&
    (Region.noSelect (l.take n).toArray && Region.lexFrom md (l.take n).toArray n 0 (Array.replicate n false)) && Region.seqB md l.toArray (l.length - n) n (Array.replicate n true ++ Array.replicate (l.length - n) false)

/-- The region: the head quiet, the tail in its order. -/
theorem wp_region_quiet_tail {P : Program} {id : Nat} {Q : Exit → Act → World → Prop} {a : Act} {w : World} {l : List Oper} (n : Nat) (hm : P.follows .mixedOrders = true) (hB : quietTailB .any l n = true)
    (h : wpQuiet P (l.take n).toArray (fun w' => ∃ k, w' = w.drewN k) (fun a' => ∀ w', (∃ k, w' = w.drewN k) → wpList P l.toArray Q (l.drop n) a' w') (l.take n) a) : (Code.region id l.toArray true).wp P Q a w := by
  simp only [quietTailB, Bool.and_eq_true, decide_eq_true_eq] at hB
  obtain ⟨⟨⟨⟨⟨hn, hs⟩, hc⟩, hb⟩, hsel, hlex⟩, hseq⟩ := hB
  have hsz : l.toArray.size = l.length := by simp
  have hq := wpAnyQ_lex (P := P) (C := fun w' => ∃ k, w' = w.drewN k) (md := .any) hsel (l.take n) 0 (Array.replicate n false) a (by simp) (by rw [List.length_take, Nat.min_eq_left (by omega)]; exact hlex) h
  rw [List.length_take, Nat.min_eq_left (by omega)] at hq
  have inv0 : HeadInv .any l.toArray n (Array.replicate l.toArray.size false) :=
    ⟨by simp, fun j oj _ hl => (by rw [getD_replicate_false] at hl; cases hl), fun t _ ht => getD_in (by simpa using ht) (getD_replicate_false _ _)⟩
  refine wp_region_any hm ?_
  have := wpAny_of_quietTail (P := P) (C := fun w' => ∃ k, w' = w.drewN k) (md := .any) (ops := l.toArray) (hd := (l.take n).toArray) (n := n) (tail := l.drop n) (Q := Q) hs hc (by omega) hb
    (fun i hi => by simp [hi]) (by simp; omega) (fun j => by simp)
    (fun L h1 h2 h3 => by
      have : L = Array.replicate n true ++ Array.replicate (l.length - n) false := by
        apply Array.ext
        · simp; omega
        · intro i hi1 hi2
          by_cases h : i < n
          · have := h2 i h
            rw [Array.getD_eq_getD_getElem?, Array.getElem?_eq_getElem hi1] at this
            rw [Array.getElem_append_left (by simpa using h), Array.getElem_replicate]
            simpa using this
          · have := h3 i (by omega) (by omega)
            rw [Array.getD_eq_getD_getElem?, Array.getElem?_eq_getElem hi1] at this
            rw [Array.getElem_append_right (by simp; omega), Array.getElem_replicate]
            simpa using this
      rw [this, List.length_drop]; exact hseq)
    n (Array.replicate l.toArray.size false) (Array.replicate n false) a { w with drawn := w.drawn + 1 } ⟨inv0, by simp, fun i hi => by
      rw [Array.getD_eq_getD_getElem?, Array.getD_eq_getD_getElem?, Array.getElem?_eq_getElem (by simp; omega), Array.getElem?_eq_getElem (by simpa using hi)]
      simp⟩
    (by
      have : ∀ m, m ≤ n → ((List.range m).countP fun i => !(Array.replicate l.toArray.size false).getD i true) = m := by
        intro m
        induction m with
        | zero => intro _; rfl
        | succ m ih =>
          intro hm
          rw [List.range_succ, List.countP_append, ih (by omega), List.countP_singleton]
          have : (Array.replicate l.toArray.size false).getD m true = false := getD_in (by simp; omega) (getD_replicate_false _ _)
          rw [this]; rfl
      exact this n (Nat.le_refl _)) ⟨1, rfl⟩ hq
  rwa [List.length_drop, show n + (l.length - n) = l.toArray.size by simp; omega] at this
end Go.Proofs.YtcibbghggfklbaaDoor
