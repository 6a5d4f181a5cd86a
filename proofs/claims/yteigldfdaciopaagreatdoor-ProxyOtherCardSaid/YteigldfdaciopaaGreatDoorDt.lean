/-
  What the rows' listed variables give a walk where bytes.ErrTooLarge is listed too; slices of ints that came in.
-/
import Derived.Test.YteigldfdaciopaaGreatDoorPkC
import Derived.Test.YteigldfdaciopaaGreatDoorPkD
namespace Go.Proofs.YteigldfdaciopaaGreatDoor
open Go.RowKit
set_option linter.unusedVariables false
set_option linter.unusedSimpArgs false

/-- A slice of ints that came in. -/
def IsRowI (w : World) (a : Option Addr) (len cap : Nat) (zs : List Int) : Prop :=
  (a = none ∧ len = 0 ∧ cap = 0 ∧ zs = []) ∨
  ∃ x, a = some x ∧ len ≤ cap ∧ cap ≤ maxLen ∧ zs.length = cap ∧ (∀ i, i < zs.length → w.cell? (x.add i) = some (.int .i64 (zs.getD i 0))) ∧ ∀ n ∈ zs, (Lit.int .i64 n).wf = true
theorem IsRowI.rdm {w : World} {a : Option Addr} {len cap : Nat} {zs : List Int} (h : IsRowI w a len cap zs) : ∃ l : List Int, l.length = len ∧ RdM w.heap.size w a l ∧ ∀ n ∈ l, I64 n := by
  rcases h with ⟨rfl, rfl, rfl, rfl⟩ | ⟨x, rfl, h1, h2, h3, h4, h5⟩
  · exact ⟨[], rfl, RdM.nil _ _ _, fun _ h => by cases h⟩
  · have hlen : (zs.take len).length = len := by rw [List.length_take]; omega
    refine ⟨zs.take len, hlen, ⟨by omega, ?_⟩, fun n hn => bounds_i64 (h5 n (List.mem_of_mem_take hn))⟩
    by_cases h0 : len = 0
    · left; subst h0; simp
    · right
      obtain ⟨b, o, sp⟩ := x
      have hsp : sp = none := spot_none (h4 0 (by omega))
      subst hsp
      have hb := World.block_lt_of_cell? w _ (h4 0 (by omega))
      refine ⟨b, o, rfl, hb, fun j hj => ?_⟩
      rw [hlen] at hj
      have h6 := h4 j (by omega)
      rw [addr_add] at h6
      rw [h6]
      have h7 : zs.getD j 0 = zs[j]'(by omega) := by simp [List.getD, List.getElem?_eq_getElem (show j < zs.length by omega)]
      rw [h7, List.getElem_take]

def tooLargeS : ByteArray := ⟨#[98, 121, 116, 101, 115, 46, 66, 117, 102, 102, 101, 114, 58, 32, 116, 111, 111, 32, 108, 97, 114, 103, 101]⟩
/-- So many blocks has the settled world. -/
noncomputable def lowN : Nat := (World.holding Tryz.prog default ⟨#[], #[], []⟩).heap.size
/-- A world for the witness: the settled one, one block more for the error's text, both tables and the error laid. -/
noncomputable def laidWorld3 (os : Os) : World :=
  let w0 := World.holding Tryz.prog os ⟨#[.cells #[.string tooLargeS] 164], #[], []⟩
  { w0 with heap := ((w0.heap.modify 4 (reCell (wv kNums))).modify 3 (reCell (wv hNums))).modify 2 (reCell #[.iface 148 (.pointer (some ⟨lowN, 0, none⟩))]) }
end Go.Proofs.YteigldfdaciopaaGreatDoor
