/-
  Package derive: Step.
-/
import Derived.Test.YtecojpkefobgpaaGreatDoorDg
import Derived.Test.YtecojpkefobgpaaGreatDoorPkG
import Derived.Laws.ResultCell
namespace Go.Proofs.YtecojpkefobgpaaGreatDoor
open Go.RowKit Go.Shelf
set_option linter.unusedVariables false
set_option linter.unusedSimpArgs false
attribute [local go_sem] Oper.semAt_some

theorem results_cell_row_tmp {P : Program} {fn : Func} {p u : Tmp} {ty : TypeId} (h : fn.results = #[.cell p ty, .tmp u]) (tmps : Array Value) (w : World) (g : Nat) (t : TypeId) (cs : Array Value) (fr : Nat × Nat) (d : TypeDesc)
    (hp : tmps.getD p undef = .pointer (some ⟨g, 0, none⟩)) (hg : w.heap[g]? = some (.cells cs t fr))
    (hu : P.underlying ty = some d) (hd : (match d with | .struct _ | .array _ _ => true | _ => false) = true) (hi : (P.info? ty).map (·.size) = some cs.size) (v : Value) (hv : tmps.getD u undef = v) :
    (results fn tmps).run P w = .ok (.tuple #[.agg cs, v]) w := by
  have hp' : tmps[p]?.getD undef = .pointer (some ⟨g, 0, none⟩) := by simpa using hp
  have hv' : tmps[u]?.getD undef = v := by simpa using hv
  simp [results, h, hp', hv', asAddr, run_loadVar_row w g t ty cs fr d hg hu hd hi]

theorem last_snoc (K x : List UInt8) (pre : List (List UInt8)) : (pre ++ [x]).getLastD K = x := by simp
theorem last_stepL (K : List UInt8) : ∀ n, (stepL K n).getLastD K = stepS K n
  | 0 => rfl
  | n + 1 => by rw [stepL_succ, last_snoc]
/-- What the rounds of Step keep: the result is the last key that came. -/
structure StI (w : World) (b n : Nat) (K : List UInt8) (pre : List (List UInt8)) (W : World) : Prop where
  out : BB W (w.heap.size + 1) 24 (pre.getLastD K)
  af : AfC b (b + 1) n K W
  below : Below w.heap.size w W
  len : (pre.getLastD K).length = 32
theorem StI.keep {w W W' : World} {b n D : Nat} {K : List UInt8} {pre : List (List UInt8)} (h : StI w b n K pre W) (hb : Below D W W') (h1 : w.heap.size + 2 ≤ b) (h2 : b + 2 ≤ D) (hw : 5 ≤ w.heap.size) : StI w b n K pre W' := by
  have ht := h.af.tab.lt
  have hz := h.below.size
  refine ⟨h.out.below hb (by omega), ⟨h.af.key.below hb (by omega), (hb.block _ (by omega)).trans h.af.num, ?_⟩, h.below.trans (hb.mono (by omega)), h.len⟩
  exact h.af.tab.of fun k hk => hb.block k (Nat.lt_of_lt_of_le hk (by omega))
def zeroKey : List UInt8 := List.replicate 32 0
end Go.Proofs.YtecojpkefobgpaaGreatDoor
