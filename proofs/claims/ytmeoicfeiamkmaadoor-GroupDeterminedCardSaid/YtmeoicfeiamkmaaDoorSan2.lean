/-
  The examples of the chapter hold.
-/
import Derived.Test.YtmeoicfeiamkmaaDoorEqd
import Derived.Lib.SlBytesConst
namespace Go.Proofs.YtmeoicfeiamkmaaDoor
open Go.RowKit

theorem sha_abc : (sha [97, 98, 99]).take 4 = [186, 120, 22, 191] := by decide +kernel
theorem sha_nil : (sha []).take 4 = [227, 176, 196, 66] := by decide +kernel
theorem take4 {l : List UInt8} {a b c d : UInt8} (h : l.take 4 = [a, b, c, d]) : l[0]? = some a ∧ l[1]? = some b ∧ l[2]? = some c ∧ l[3]? = some d := by
  have e : ∀ i, i < 4 → l[i]? = ([a, b, c, d] : List UInt8)[i]? := fun i hi => by rw [← h, List.getElem?_take_of_lt hi]
  exact ⟨e 0 (by decide), e 1 (by decide), e 2 (by decide), e 3 (by decide)⟩
theorem BB.cells4 {w : World} {g : Nat} {T : TypeId} {l : List UInt8} {a b c d : UInt8} (h : BB w g T l) (h4 : l.take 4 = [a, b, c, d]) :
    w.cell? ⟨g, 0, none⟩ = some (bv a) ∧ w.cell? ⟨g, 1, none⟩ = some (bv b) ∧ w.cell? ⟨g, 2, none⟩ = some (bv c) ∧ w.cell? ⟨g, 3, none⟩ = some (bv d) := by
  obtain ⟨h0, h1, h2, h3⟩ := take4 h4
  have e : ∀ i x, l[i]? = some x → w.cell? ⟨g, i, none⟩ = some (bv x) := fun i x hx => by
    rw [cell_of_row w g i _ T (0, 0) h]; simp [bvA, hx]
  exact ⟨e 0 _ h0, e 1 _ h1, e 2 _ h2, e 3 _ h3⟩
theorem lenS_02 : lenS 0 2 = 1 := by
  rw [lenS_lo 0 2 (by decide) (half_bd 2 (by decide)).2.2, lenS_one 0 (half 2) (by have := (half_bd 2 (by decide)).1; omega)]
def one32 : List UInt8 := 1 :: List.replicate 31 0

theorem Below.drew' (w : World) : Below w.drew.heap.size w.drew w := ⟨rfl, rfl, rfl, Nat.le_refl _, fun _ _ => rfl⟩
end Go.Proofs.YtmeoicfeiamkmaaDoor
