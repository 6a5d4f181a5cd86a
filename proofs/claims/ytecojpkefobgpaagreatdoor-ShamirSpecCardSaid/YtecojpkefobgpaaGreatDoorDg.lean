/-
  Package derive: the keys of a chain, one after the other.
-/
import Derived.Test.YtecojpkefobgpaaGreatDoorDf
namespace Go.Proofs.YtecojpkefobgpaaGreatDoor
open Go.RowKit Go.Shelf
set_option linter.unusedVariables false
set_option linter.unusedSimpArgs false
attribute [local go_sem] Oper.semAt_some

theorem wpListIn_load_row {F : Fence} {n : Nat} {P : Program} {ops : Array Oper} {rest : List Oper} {o : Oper} {a : Act} {w : World} {Q : Exit → Act → World → Prop} (hgd : o.guard = none) (ty : TypeId) (x : Operand) (ho : o.op = .load ty x)
    (g : Nat) (hx : a.eval x = .pointer (some ⟨g, 0, none⟩)) (t : TypeId) (cs : Array Value) (fr : Nat × Nat) (d : TypeDesc) (hg : w.heap[g]? = some (.cells cs t fr))
    (hu : P.underlying ty = some d) (hd : (match d with | .struct _ | .array _ _ => true | _ => false) = true) (hi : (P.info? ty).map (·.size) = some cs.size)
    (h : wpListIn F n P ops Q rest (a.put o.dst (.agg cs)) w) : wpListIn F n P ops Q (o :: rest) a w := by
  refine wpListIn_plain hgd fun K hK' => ?_
  unfold Oper.wpIn
  refine ⟨?_, ?_⟩
  · simp [Oper.about, ho]
  · rw [Oper.semAt_plain F _ _ (by rw [ho]; intro c hc'; cases hc')]
    unfold execOp
    simp only [ho, hx, Instr.loadAt, Instr.sureAddr, Sem.run_bind, Sem.run_pure, Result.andThen_ok, run_loadVar_row w g t ty cs fr d hg hu hd hi]
    exact hK' _ _ h
theorem wpListIn_storeA {F : Fence} {n : Nat} {P : Program} {w : World} {ops : Array Oper} {rest : List Oper} {o : Oper} {a : Act} {Q : Exit → Act → World → Prop} (hgd : o.guard = none) (ty : TypeId) (x y : Operand) (ho : o.op = .store ty x y)
    (g : Nat) (cells : Array Value) (hx : a.eval x = .pointer (some ⟨g, 0, none⟩)) (hy : a.eval y = .agg cells)
    (t : TypeId) (old : Array Value) (hg : w.heap[g]? = some (.cells old t (0, 0))) (hi : (P.info? ty).map (·.size) = some cells.size)
    (hold : old.size = cells.size) (h1 : cells.all (·.oneCell') = true)
    (h : ∀ w', w'.heap[g]? = some (.cells cells t (0, 0)) → w.grownBy w' (some g) → wpListIn F n P ops Q rest (a.put o.dst undef) w') : wpListIn F n P ops Q (o :: rest) a w := by
  refine wpListIn_plain hgd fun K hK' => ?_
  unfold Oper.wpIn
  refine ⟨?_, ?_⟩
  · simp [Oper.about, ho]
  · rw [Oper.semAt_plain F _ _ (by rw [ho]; intro c hc'; cases hc')]
    unfold execOp
    simp only [ho, hx, hy, Instr.storeAt, Instr.sureAddr, Sem.run_bind, Sem.run_pure, Result.andThen_ok, run_storeVar_row w g t ty old cells hg hi hold h1]
    exact hK' _ _ (h _ (setRow_heap w g _ _ t _ hg) ⟨rfl, rfl, rfl, by simp [World.setRow], fun k hk hn => setRow_other w g k _ (fun e => hn (by rw [e]))⟩)

/-- The key after some steps. -/
def stepS (K : List UInt8) : Nat → List UInt8
  | 0 => K
  | n + 1 => expS (stepS K n) lblStep []
theorem stepS_len {K : List UInt8} (h : K.length = 32) : ∀ n, (stepS K n).length = 32
  | 0 => h
  | n + 1 => expS_len _ _ _
theorem stepS_add (K : List UInt8) (m : Nat) : ∀ n, stepS (stepS K m) n = stepS K (m + n)
  | 0 => rfl
  | n + 1 => by
    show expS (stepS (stepS K m) n) lblStep [] = expS (stepS K (m + n)) lblStep []
    rw [stepS_add K m n]
/-- The keys behind it, one after the other. -/
def stepL (K : List UInt8) (n : Nat) : List (List UInt8) := (List.range n).map fun i => stepS K (i + 1)
theorem stepL_succ (K : List UInt8) (n : Nat) : stepL K (n + 1) = stepL K n ++ [stepS K (n + 1)] := by simp [stepL, List.range_succ]

/-- What the function reads: the boxes of the key and the number, and the tables. -/
structure AfC (Bk Bn n : Nat) (K : List UInt8) (W : World) : Prop where
  key : BB W Bk 24 K
  num : Boxed W Bn 3 (.int .i64 n)
  tab : Tab W

end Go.Proofs.YtecojpkefobgpaaGreatDoor
