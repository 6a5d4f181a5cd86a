/-
  A range over a function that makes blocks of its own and yields values that lie in them, where no round leaves the loop; a drawn region in the body of such a loop.
-/
import Derived.Test.YtecojpkefobgpaaGreatDoorDf
import Derived.Deep.RegionHeld3
namespace Go.Proofs.YtecojpkefobgpaaGreatDoor
open Go.RowKit Go.Shelf
set_option linter.unusedVariables false
set_option linter.unusedSimpArgs false
attribute [local go_sem] Oper.semAt_some

/-- In a round of a loop an operation that is no defer statement is carried out as everywhere. -/
theorem oper_wp_round {P : Program} {o : Oper} {a : Act} {w : World} {K K' : Act → World → Prop} {Q : Exit → Act → World → Prop} (l n : Nat) (hd : ∀ c, o.op ≠ .defer c) (hQ : ∀ a w, ¬ Q .outgrown a w) (hK : ∀ a w, K a w → K' a w)
    (h : o.wp P a w K Q) : o.wpIn (Fence.wide.inRound l) n P a w K' Q := by
  refine ⟨fun _ _ => trivial, ?_⟩
  rw [Oper.semAt_plain _ _ _ hd]
  unfold Oper.wp at h
  generalize (execOp a.eval o).run P w = r at *
  unfold Oper.upon at h
  unfold Oper.uponIn
  split at h
  · exact hK _ _ h
  · exact hK _ _ h
  · exact hK _ _ h
  · rename_i f args w'
    refine ⟨fun e => by simp [Fence.wide] at e, CallsIn.inRound l (callsIn_wide.2 (h.mono ?_))⟩
    intro e w'' he
    cases e with
    | returned v => exact hK _ _ he
    | panicked c => exact he
    | outgrown => exact he
  · rename_i row args w'
    refine ⟨fun e => by simp [Fence.wide] at e, fun c cs _ => ?_⟩
    obtain ⟨v, w'', r, s⟩ := h c cs
    exact ⟨v, w'', hK _ _ r, stepsIn_wide.2 s⟩
  · exact h
  · exact h.elim
theorem wpOps_round {P : Program} {ops : Array Oper} {Q : Exit → Act → World → Prop} (l n : Nat) (hd : ∀ o ∈ ops, ∀ c, o.op ≠ .defer c) (hQ : ∀ a w, ¬ Q .outgrown a w) :
    ∀ (L : List Nat) (a : Act) (w : World), wpOps P ops Q L a w → wpOpsIn (Fence.wide.inRound l) n P ops Q L a w
  | [], a, w, h => h
  | i :: L, a, w, h => by
    unfold wpOps at h
    unfold wpOpsIn
    cases ho : ops[i]? with
    | none => rw [ho] at h; exact wpOps_round l n hd hQ L a w h
    | some o =>
      rw [ho] at h
      simp only at h ⊢
      by_cases hw : Region.wanted o (yielded ops a.tmps) = true
      · rw [if_pos hw] at h ⊢
        rcases h with h | ⟨_, a', w', h⟩
        · exact oper_wp_round l n (hd o (Array.mem_of_getElem? ho)) hQ (fun a w h => wpOps_round l n hd hQ L a w h) h
        · exact absurd h (hQ a' w')
      · rw [if_neg hw] at h ⊢
        exact ⟨fun _ _ => trivial, wpOps_round l n hd hQ L _ w h⟩
/-- No operation is a defer statement. -/
def noDefer (ops : Array Oper) : Bool := ops.all fun o => match o.op with | .defer _ => false | _ => true
theorem noDefer_out {ops : Array Oper} (h : noDefer ops = true) : ∀ o ∈ ops, ∀ c, o.op ≠ .defer c := by
  intro o ho c hc
  have := Array.all_eq_true_iff_forall_mem.1 h o ho
  rw [hc] at this
  cases this
theorem wpIn_region_held_drew {P : Program} {ops : Array Oper} {Q : Exit → Act → World → Prop} {S : World → Prop} {l n id : Nat} {a : Act} {w : World} (hm : P.follows .mixedOrders = true) (hd : noDefer ops = true) (hQ : ∀ a w, ¬ Q .outgrown a w)
    (hS : S w.drew) (h : S w.drew → wpAnyH P .any ops Q S ops.size (Array.replicate ops.size false) a w.drew) : (Code.region id ops true).wpIn (Fence.wide.inRound l) n P Q a w :=
  wpIn_region_draw fun t => by
    simp only [Region.schedule, hm, Bool.true_or, if_true]
    exact wpOps_round l n (noDefer_out hd) hQ _ _ _ (wpAny_sound ops.size t _ a _ (wpAny_of_held _ _ _ _ (h hS)))

/-- What a function that is ranged over does, where its own blocks lie from Z on: it yields values that stand for the list ys; what the rounds keep lies below Z; a round leaves the blocks from Z on as they are. C: what the rounds keep and the function reads. -/
def SeqRel {α : Type} (F : Fence) (n : Nat) (P : Program) (g : Nat) (lb : Array Value) (Enc : α → Array Value → World → Prop) (C : World → Prop) (ys : List α) : Prop :=
  ∀ (l Z : Nat) (J : List α → World → Prop),
    (∀ pre W W', J pre W → Below Z W W' → J pre W') →
    (∀ pre W, J pre W → C W) →
    (∀ pre x vs W, J pre W → pre.length < ys.length → ys[pre.length]? = some x → Enc x vs W → Z ≤ W.heap.size → YieldAt F (n - 1) P l vs W fun e W' => e = .returned (.bool true) ∧ J (pre ++ [x]) W' ∧ (∀ k, Z ≤ k → k < W.heap.size → W'.heap[k]? = W.heap[k]?) ∧ W.heap.size ≤ W'.heap.size) →
    ∀ W, W.heap.size = Z → J [] W →
    CallsIn F n P g (#[.func (.yield l) #[] #[]] ++ lb) W fun e W' => (∃ v, e = .returned v) ∧ J ys W'

/-- The loop over such a function, whose body always goes on; the loop's variables are new blocks for each round. -/
theorem range_rel {F : Fence} {n : Nat} {P : Program} {α : Type} {g : Operand} {ps : Array Tmp} {assign body : Code} {Q : Exit → Act → World → Prop} {a : Act} {w : World}
    (hro : F.round = none) (h1 : 1 ≤ n) {gf : Nat} {lb : Array Value} (hg : a.eval g = .func (.func gf) #[] lb) (hF : F.fn gf) (eg : ∀ args w, (callFunc gf args).run P w = .ok (.enter gf args) w)
    {Enc : α → Array Value → World → Prop} {C : World → Prop} {ys : List α} (hs : SeqRel F (n - 1) P gf lb Enc C ys) (hps : ∀ x vs W, Enc x vs W → vs.size = ps.size)
    (I : List α → World → Prop) (hI : ∀ pre W W', I pre W → Below w.heap.size W W' → I pre W') (hIC : ∀ pre W, I pre W → C W) (h0 : I [] w)
    (R : α → Nat → Act → World → Prop) (hR : ∀ (x : α) (g : Nat) (a' : Act) (L : Nat) (o : Obj) (W W' : World), R x g a' W → W.heap[L]? = some o → o.isCells = false → (∀ k, k ≠ L → W'.heap[k]? = W.heap[k]?) → W.heap.size ≤ W'.heap.size → R x g a' W')
    (hassign : ∀ (l : Nat) (x : α) (vs : Array Value) (W : World) (K : Act → World → Prop), Enc x vs W → (∀ a' W', Below W.heap.size W W' → W.heap.size < W'.heap.size → R x W.heap.size a' W' → K a' W') →
      assign.wpIn (F.inRound l) (n - 1 - 1) P (Exit.then K (fun _ _ _ => False)) { tmps := (ps.zip vs).foldl (fun t (p, v) => t.setIfInBounds p v) a.tmps, defers := [] } W)
    (hbody : ∀ (l : Nat) (pre : List α) (x : α) (g : Nat) (a' : Act) (W : World), I pre W → ys[pre.length]? = some x → w.heap.size ≤ g → g < W.heap.size → R x g a' W →
      body.wpIn (F.inRound l) (n - 1 - 1) P (Exit.then (fun _ W' => (∀ k, w.heap.size ≤ k → k < W.heap.size → W'.heap[k]? = W.heap[k]?) ∧ W.heap.size ≤ W'.heap.size ∧ I (pre ++ [x]) W') (fun _ _ _ => False)) a' W)
    (hdone : ∀ (D : Nat) (W : World), w.heap.size ≤ D → I ys W → W.heap[D]? = some (.deferred (some [])) → Q .normal { a with defers := { target := .collected D, args := #[] } :: a.defers } W) :
    (Code.rangeFunc g ps assign body).wpIn F n P Q a w := by
  refine wpIn_rangeFunc fun fn hfn => ?_
  rw [hro]
  obtain ⟨R0, hR0⟩ : ∃ R : LoopState → Loop, ∀ s, R s = { state := s, pending := none, fn, tmps := a.tmps, params := ps, assign, body, defers := w.heap.size } := ⟨fun s => { state := s, pending := none, fn, tmps := a.tmps, params := ps, assign, body, defers := w.heap.size }, fun _ => rfl⟩
  obtain ⟨D, hD⟩ : ∃ D, w.heap.size = D := ⟨_, rfl⟩
  obtain ⟨W1, hW1⟩ : ∃ W1, (w.alloc (.deferred (some []))).alloc (.loop (R0 .ready)) = W1 := ⟨_, rfl⟩
  have hz1 : W1.heap.size = D + 2 := by rw [← hW1, World.size_alloc, World.size_alloc, hD]
  have hl : W1.heap[D + 1]? = some (.loop (R0 .ready)) := by
    rw [← hW1, ← hD]
    have h := World.alloc_heap_new (w.alloc (.deferred (some []))) (.loop (R0 .ready))
    rwa [World.size_alloc] at h
  have hd : W1.heap[D]? = some (.deferred (some [])) := by
    rw [← hW1, ← hD]
    exact (Below.heap_alloc _ _ _ (by simp)).trans (World.alloc_heap_new w _)
  have hi1 : I [] W1 := by rw [← hW1]; exact hI _ _ _ h0 (((Below.refl _ _).alloc (Nat.le_refl _) _).alloc (by simp) _)
  rw [hD] at hI hbody
  -- What the rounds keep.
  obtain ⟨J, hJ⟩ : ∃ J : List α → World → Prop, ∀ pre W, J pre W ↔ (I pre W ∧ W.heap[D + 1]? = some (.loop (R0 .ready)) ∧ W.heap[D]? = some (.deferred (some []))) := ⟨_, fun _ _ => Iff.rfl⟩
  refine ⟨D + 1, [{ target := .collected D, args := #[] }], W1, { target := .fn (.func gf) lb, args := #[.func (.yield (D + 1)) #[] #[]] }, W1, gf, #[.func (.yield (D + 1)) #[] #[]] ++ lb, W1, ?_, ?_, ?_, ?_, fun _ => h1, ?_⟩
  · rw [← hW1, hR0, ← hD]; exact run_enterLoop_outer _ _ _ _ _
  · simp only [resolve, hg]
    simp [go_sem]
  · intro f' hf
    simp [Target.leads] at hf
    subst hf
    exact hF
  · simp [invoke, go_sem, eg]
  · refine (hs (D + 1) (D + 2) J (fun pre W W' h hb => ?_) (fun pre W h => hIC _ _ ((hJ _ _).1 h).1) (fun pre x vs W h hlen hx hv hz => ?_) W1 hz1 ((hJ _ _).2 ⟨hi1, hl, hd⟩)).mono ?_
    · obtain ⟨h2, h3, h4⟩ := (hJ _ _).1 h
      exact (hJ _ _).2 ⟨hI _ _ _ h2 (hb.mono (by omega)), (hb.block _ (by omega)).trans h3, (hb.block _ (by omega)).trans h4⟩
    · obtain ⟨h2, h3, h4⟩ := (hJ _ _).1 h
      have hy := run_yield (P := P) (args := vs) h3 (by rw [hR0]; exact hps x vs W hv)
      rw [hR0] at hy
      refine ⟨fn, _, assign, body, hy, roundIn_of_wpIn hfn (hassign _ x vs W _ hv fun a' Wa hba hza hra => ?_)⟩
      have h3a : Wa.heap[D + 1]? = some (.loop (R0 .ready)) := (hba.block _ (by omega)).trans h3
      have h4a : Wa.heap[D]? = some (.deferred (some [])) := (hba.block _ (by omega)).trans h4
      have h2a : I pre Wa := hI _ _ _ h2 (hba.mono (by omega))
      refine ⟨_, run_beginRound h3a (by rw [hR0]), ?_⟩
      obtain ⟨W2, hW2⟩ : ∃ W2, Wa.putObj (D + 1) (.loop (R0 .busy)) = W2 := ⟨_, rfl⟩
      have e2 : Wa.putObj (D + 1) (.loop { R0 .ready with state := .busy }) = W2 := by rw [← hW2, hR0, hR0]
      rw [e2]
      have hlta := (Array.getElem?_eq_some_iff.1 h3a).1
      have hb2 : Below (D + 1) Wa W2 := by rw [← hW2]; exact below_put (Nat.le_refl _) h3a
      have h5 : W2.heap[D + 1]? = some (.loop (R0 .busy)) := by rw [← hW2]; exact World.putObj_heap_same hlta
      have h6 : W2.heap[D]? = some (.deferred (some [])) := (hb2.block _ (by omega)).trans h4a
      have h7 : I pre W2 := hI _ _ _ h2a (hb2.mono (by omega))
      have hoth : ∀ k, k ≠ D + 1 → W2.heap[k]? = Wa.heap[k]? := fun k hk => by rw [← hW2]; exact World.putObj_heap_other hk
      refine wpIn_mono (hbody _ pre x W.heap.size a' W2 h7 hx (by omega) (Nat.lt_of_lt_of_le hza hb2.size) (hR _ _ _ _ _ _ _ hra h3a rfl hoth hb2.size)) ?_
      rintro e a3 W3 hp
      cases e with
      | normal =>
        obtain ⟨hk, hz3, hi⟩ := hp
        have h8 := (hk (D + 1) (by omega) (by have := hb2.size; omega)).trans h5
        have h9 := (hk D (by omega) (by have := hb2.size; omega)).trans h6
        have hlt3 := (Array.getElem?_eq_some_iff.1 h8).1
        have hpb : ∀ o, Below (D + 1) W3 (W3.putObj (D + 1) o) := fun o => below_put (Nat.le_refl _) h8
        refine ⟨_, _, run_endRound none h8, rfl, (hJ _ _).2 ⟨hI _ _ _ hi ((hpb _).mono (by omega)), ?_, ((hpb _).block _ (by omega)).trans h9⟩, fun k hk1 hk2 => ?_, ?_⟩
        · rw [World.putObj_heap_same hlt3, hR0, hR0]; rfl
        · exact (World.putObj_heap_other (by omega)).trans ((hk k (by omega) (by have := hb2.size; omega)).trans ((hoth k (by omega)).trans (hba.block k hk2)))
        · exact Nat.le_trans (Nat.le_of_lt hza) (Nat.le_trans hb2.size (Nat.le_trans hz3 (hpb _).size))
      | ret => exact hp.elim
      | exit id => exact hp.elim
      | goto t => exact hp.elim
      | panic ch => exact hp.elim
      | outgrown => exact hp.elim
    · rintro e W2 ⟨⟨v, rfl⟩, hj⟩
      obtain ⟨h2, h3, h4⟩ := (hJ _ _).1 hj
      have h5 := run_endLoop (P := P) h3 (by rw [hR0]; simp)
      rw [show (R0 .ready).pending = none from by rw [hR0]] at h5
      have hpb : ∀ o, Below (D + 1) W2 (W2.putObj (D + 1) o) := fun o => below_put (Nat.le_refl _) h3
      exact ⟨none, _, h5, hdone D _ (by omega) (hI _ _ _ h2 ((hpb _).mono (by omega))) (((hpb _).block _ (by omega)).trans h4)⟩
end Go.Proofs.YtecojpkefobgpaaGreatDoor
