/-
  What the rows' listed tables give a walk; slices of bytes that came in.
-/
import Derived.Test.YtmeoicfeiamkmaaDoorCards
import Derived.Test.YtmeoicfeiamkmaaDoorAbs
import Derived.Lib.LaidTab
import Derived.Lib.SmallJoins
import Derived.Stop.LaidErr
import Derived.WalkKit
import Derived.ProofKit
import Derived.OpenShut
import Derived.Below
namespace Go.Proofs.YtmeoicfeiamkmaaDoor
open Go.RowKit

theorem gK : Tryd.prog.globalNamed "chartroom/digest.roundNumbers" = some 3 := by kernel_rfl
theorem gS : Tryd.prog.globalNamed "chartroom/digest.start" = some 0 := by kernel_rfl
theorem gKt : (Tryd.prog.globals[3]?).map (·.type) = some 75 := by kernel_rfl
theorem gSt : (Tryd.prog.globals[0]?).map (·.type) = some 52 := by kernel_rfl
theorem c32 : Tryd.prog.cellsOf 51 = 1 := by kernel_rfl
theorem cK : Tryd.prog.cellsOf 75 = 64 := by kernel_rfl
theorem cS : Tryd.prog.cellsOf 52 = 8 := by kernel_rfl
/-- The rows' list. -/
def laid2 : List (String × DataW Unit) := [("chartroom/digest.roundNumbers", Rows.laid_chartroom_digest_roundNumbers), ("chartroom/digest.start", Rows.laid_chartroom_digest_start)]
theorem laid2_eq : laid2 = [("chartroom/digest.roundNumbers", Lib.tabData .u32 (kNums.map Int.ofNat)), ("chartroom/digest.start", Lib.tabData .u32 (hNums.map Int.ofNat))] := by kernel_rfl
theorem range_of_tab {W : World} {name : String} {g : Nat} {l : List Nat} (hg : Tryd.prog.globalNamed name = some g) (h : Lib.TabIs Tryd.prog W name .u32 (l.map Int.ofNat)) : W.rangeAt g 0 (wv l).toList := by
  intro j v hv
  have hj : j < l.length := by have := (List.getElem?_eq_some_iff.1 hv).1; simpa [wv] using this
  have hc := h.cell hg j (by rw [List.length_map]; exact hj)
  rw [Nat.zero_add, hc, ← hv]
  simp [wv, List.getD, hj]
theorem tab_of_laid {W : World} (h : laidMet Tryd.prog laid2 W) : Tab W := by
  rw [laid2_eq] at h
  exact ⟨range_of_tab gK (Lib.tabIs_of_head gK gKt Tryd.underlying75 Tryd.underlying51 c32 cK h), range_of_tab gS (Lib.tabIs_of_head gS gSt Tryd.underlying52 Tryd.underlying51 c32 cS h.tail)⟩

theorem spot_none {w : World} {a : Addr} {v : Value} (h : w.cell? a = some v) : a.spot = none := by
  unfold World.cell? at h
  split at h
  · split at h
    · cases h
    · rename_i h1; simpa using h1
  · cases h
/-- A slice of bytes that came in. -/
def IsRow (w : World) (a : Option Addr) (len cap : Nat) (zs : List Int) : Prop :=
  (a = none ∧ len = 0 ∧ cap = 0 ∧ zs = []) ∨
  ∃ x, a = some x ∧ len ≤ cap ∧ cap ≤ maxLen ∧ zs.length = cap ∧ (∀ i, i < zs.length → w.cell? (x.add i) = some (.int .u8 (zs.getD i 0))) ∧ ∀ n ∈ zs, (Lit.int .u8 n).wf = true
theorem byte_of {n : Int} (h : (Lit.int .u8 n).wf = true) : ((UInt8.ofNat n.toNat).toNat : Int) = n := by
  have h1 := bounds_u8 h
  simp; omega
theorem IsRow.rd {w : World} {a : Option Addr} {len cap : Nat} {zs : List Int} (h : IsRow w a len cap zs) : ∃ l : List UInt8, l.length = len ∧ RdB w.heap.size w a l ∧ len ≤ cap ∧ cap ≤ maxLen ∧ (a = none → cap = 0) := by
  rcases h with ⟨rfl, rfl, rfl, rfl⟩ | ⟨x, rfl, h1, h2, h3, h4, h5⟩
  · exact ⟨[], rfl, ⟨Nat.zero_le _, .inl rfl⟩, Nat.le_refl _, Nat.zero_le _, fun _ => rfl⟩
  · have hlen : ((zs.take len).map fun n => UInt8.ofNat n.toNat).length = len := by rw [List.length_map, List.length_take]; omega
    refine ⟨(zs.take len).map fun n => UInt8.ofNat n.toNat, hlen, ⟨by omega, ?_⟩, h1, h2, fun e => by cases e⟩
    by_cases h0 : len = 0
    · left; subst h0; simp
    · right
      obtain ⟨b, o, sp⟩ := x
      have hsp : sp = none := spot_none (h4 0 (by omega))
      subst hsp
      have hb := World.block_lt_of_cell? w _ (h4 0 (by omega))
      refine ⟨b, o, rfl, hb, fun j hj => ?_⟩
      rw [hlen] at hj
      have h6 := h4 j (by omega)
      rw [addr_add] at h6
      rw [h6]
      have h7 : zs.getD j 0 = zs[j]'(by omega) := by simp [List.getD, List.getElem?_eq_getElem (show j < zs.length by omega)]
      have h8 := byte_of (h5 _ (List.getElem_mem (show j < zs.length by omega)))
      rw [h7]
      simp only [List.getElem_map, List.getElem_take]
      unfold bv
      rw [h8]
/-- A block whose cells are written anew. -/
def reCell (cs : Array Value) : Obj → Obj
  | .cells _ t frozen => .cells cs t frozen
  | o => o
/-- A world for the witness: the settled one, both tables holding what their initialisers lay. -/
noncomputable def laidWorld (os : Os) : World :=
  let w0 := World.holding Tryd.prog os ⟨#[], #[], []⟩
  { w0 with heap := (w0.heap.modify 3 (reCell (wv kNums))).modify 0 (reCell (wv hNums)) }
end Go.Proofs.YtmeoicfeiamkmaaDoor
