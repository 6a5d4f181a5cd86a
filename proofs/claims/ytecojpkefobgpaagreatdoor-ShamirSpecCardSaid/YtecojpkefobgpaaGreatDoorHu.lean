/-
  Slices of shares and of bools that came in.
-/
import Derived.Test.YtecojpkefobgpaaGreatDoorPkC
import Derived.Test.YtecojpkefobgpaaGreatDoorHl
import Derived.Deep.SlicePairs
import Derived.Deep.Grids
namespace Go.Proofs.YtecojpkefobgpaaGreatDoor
open Go.RowKit Go.Deep Go.ChangeShapes Go.WideShapes
set_option linter.unusedVariables false
set_option linter.unusedSimpArgs false

/-- A slice of shares that came in. -/
def IsShr (w : World) (a : Option Addr) (len cap : Nat) (l : List Sh) : Prop := l.length = len ∧ RdS w.heap.size w a l ∧ len ≤ cap ∧ cap ≤ maxLen ∧ (a = none → cap = 0)
/-- A slice of bools that came in. -/
def IsBoo (w : World) (a : Option Addr) (len : Nat) (l : List Bool) : Prop := l.length = len ∧ RdT w.heap.size w a l
def numV : Value → Int
  | .int _ n => n
  | _ => 0
theorem open_shr {H : Type} {enc : TypeId × Value → H} {W : World} {base : Nat} {sp : Nat → Bool} {hd : Bool} {a : Option Addr} {len cap : Nat} {d : DataW H} {ps : List MemPlace}
    (h : DataW.Trod enc Tryz.prog W base sp hd 22 (.slice a len cap) d ps) : ∃ l : List Sh, IsShr W a len cap l := by
  obtain ⟨fuel, hf⟩ := h
  rcases open_slice_pairs Tryz.underlying22 Tryz.underlying40 (by kernel_rfl) rfl rfl (by kernel_rfl) (by kernel_rfl) hf with ⟨hcs, _⟩ | ⟨x, len', cap', m, n, V0, V1, D0, D1, P0, P1, hcs, _, hl, hm, hmm, _, hx⟩
  · simp [Value.cells] at hcs
    obtain ⟨rfl, rfl, rfl⟩ := hcs
    exact ⟨[], rfl, RdS.nil _ _ _, Nat.le_refl _, Nat.zero_le _, fun _ => rfl⟩
  · simp [Value.cells] at hcs
    obtain ⟨rfl, rfl, rfl⟩ := hcs
    have hlm : len ≤ m := by rw [hmm]; split <;> omega
    have hint : ∀ i, i < m → V0 i = .int .i64 (numV (V0 i)) ∧ V1 i = .int .i64 (numV (V1 i)) := fun i hi => by
      obtain ⟨_, _, h0, h1⟩ := hx i hi
      obtain ⟨r, hr, _, _⟩ := DataW.trod_int Tryz.underlying3 h0
      obtain ⟨s, hs, _, _⟩ := DataW.trod_int Tryz.underlying3 h1
      simp only [List.cons.injEq, and_true] at hr hs
      exact ⟨by rw [hr]; rfl, by rw [hs]; rfl⟩
    refine ⟨(List.range len).map fun i => (numV (V0 i), numV (V1 i)), by simp, ⟨by simp; omega, ?_⟩, hl, hm, fun e => by cases e⟩
    by_cases h0 : len = 0
    · left; subst h0; rfl
    · right
      obtain ⟨b, o, sp⟩ := x
      have hc0 := (hx 0 (by omega)).1
      have hsp : sp = none := spot_none hc0
      subst hsp
      have hb := World.block_lt_of_cell? W _ hc0
      refine ⟨b, o, rfl, hb, fun j hj => ?_⟩
      have hj' : j < len := by simpa using hj
      obtain ⟨c0, c1, _, _⟩ := hx j (by omega)
      obtain ⟨i0, i1⟩ := hint j (by omega)
      rw [addr_add] at c0 c1
      rw [i0] at c0
      rw [i1] at c1
      simp only [List.getElem_map, List.getElem_range]
      exact ⟨c0, by rw [← c1, Nat.add_assoc]⟩
end Go.Proofs.YtecojpkefobgpaaGreatDoor
