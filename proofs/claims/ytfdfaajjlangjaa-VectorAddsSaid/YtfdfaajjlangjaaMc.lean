/-
  Slices of dots that came in.
-/
import Derived.OpenShut
import Derived.Lib.SmallJoins
import Derived.Test.YtfdfaajjlangjaaMb
import Derived.Deep.SlicePairs
import Derived.Deep.Grids
namespace Go.Proofs.Ytfdfaajjlangjaa
open Go.RowKit Go.Deep Go.ChangeShapes Go.WideShapes
set_option linter.unusedVariables false
set_option linter.unusedSimpArgs false

theorem spot_noneD {w : World} {a : Addr} {v : Value} (h : w.cell? a = some v) : a.spot = none := by
  unfold World.cell? at h
  split at h
  · split at h
    · cases h
    · rename_i h1; simpa using h1
  · cases h
/-- A slice of dots that came in. -/
def IsDts (w : World) (a : Option Addr) (len cap : Nat) (l : List Dt) : Prop := l.length = len ∧ RdDt w.heap.size w a l ∧ len ≤ cap ∧ cap ≤ maxLen ∧ (a = none → cap = 0)
def numD : Value → Int
  | .int _ n => n
  | _ => 0
theorem open_dts {H : Type} {enc : TypeId × Value → H} {W : World} {base : Nat} {sp : Nat → Bool} {hd : Bool} {a : Option Addr} {len cap : Nat} {d : DataW H} {ps : List MemPlace}
    (h : DataW.Trod enc Try.prog W base sp hd 22 (.slice a len cap) d ps) : ∃ l : List Dt, IsDts W a len cap l := by
  obtain ⟨fuel, hf⟩ := h
  rcases open_slice_pairs Try.underlying22 Try.underlying24 (by kernel_rfl) rfl rfl (by kernel_rfl) (by kernel_rfl) hf with ⟨hcs, _⟩ | ⟨x, len', cap', m, n, V0, V1, D0, D1, P0, P1, hcs, _, hl, hm, hmm, _, hx⟩
  · simp [Value.cells] at hcs
    obtain ⟨rfl, rfl, rfl⟩ := hcs
    exact ⟨[], rfl, RdDt.nil _ _ _, Nat.le_refl _, Nat.zero_le _, fun _ => rfl⟩
  · simp [Value.cells] at hcs
    obtain ⟨rfl, rfl, rfl⟩ := hcs
    have hlm : len ≤ m := by rw [hmm]; split <;> omega
    have hint : ∀ i, i < m → V0 i = .int .i64 (numD (V0 i)) ∧ V1 i = .int .i64 (numD (V1 i)) := fun i hi => by
      obtain ⟨_, _, h0, h1⟩ := hx i hi
      obtain ⟨r, hr, _, _⟩ := DataW.trod_int Try.underlying3 h0
      obtain ⟨s, hs, _, _⟩ := DataW.trod_int Try.underlying3 h1
      simp only [List.cons.injEq, and_true] at hr hs
      exact ⟨by rw [hr]; rfl, by rw [hs]; rfl⟩
    refine ⟨(List.range len).map fun i => (numD (V0 i), numD (V1 i)), by simp, ⟨by simp; omega, ?_⟩, hl, hm, fun e => by cases e⟩
    by_cases h0 : len = 0
    · left; subst h0; rfl
    · right
      obtain ⟨b, o, sp⟩ := x
      have hc0 := (hx 0 (by omega)).1
      have hsp : sp = none := spot_noneD hc0
      subst hsp
      have hb := World.block_lt_of_cell? W _ hc0
      refine ⟨b, o, rfl, hb, fun j hj => ?_⟩
      have hj' : j < len := by simpa using hj
      obtain ⟨c0, c1, _, _⟩ := hx j (by omega)
      obtain ⟨i0, i1⟩ := hint j (by omega)
      rw [addr_add] at c0 c1
      rw [i0] at c0
      rw [i1] at c1
      simp only [List.getElem_map, List.getElem_range]
      exact ⟨c0, by rw [← c1, Nat.add_assoc]⟩
/-- A dot that came in by value. -/
theorem open_dot {H : Type} {enc : TypeId × Value → H} {W : World} {base b0 : Nat} {sp : Nat → Bool} {hd : Bool} {v : Value} {d : DataW H} {ps : List MemPlace}
    (hval : Value.okWide Try.prog W .any b0 24 v) (h : DataW.Trod enc Try.prog W base sp hd 24 v d ps) : ∃ s : Dt, v = dtV s := by
  obtain ⟨v0, v1, y0, y1, n, rfl, rfl, rfl, h0, h1⟩ := Joins.open_agg2 Try.underlying24 (by kernel_rfl) (by kernel_rfl) hval h
  obtain ⟨r, hr, _, _⟩ := DataW.trod_int Try.underlying3 h0
  obtain ⟨s, hs, _, _⟩ := DataW.trod_int Try.underlying3 h1
  simp only [List.cons.injEq, and_true] at hr hs
  exact ⟨(r, s), by rw [hr, hs]; rfl⟩
end Go.Proofs.Ytfdfaajjlangjaa
