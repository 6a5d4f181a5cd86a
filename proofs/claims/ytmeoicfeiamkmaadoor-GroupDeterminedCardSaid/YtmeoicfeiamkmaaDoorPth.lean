/-
  Paths in trees of hashes: pathOf and Path of package digest.
-/
import Derived.Test.YtmeoicfeiamkmaaDoorDig
namespace Go.Proofs.YtmeoicfeiamkmaaDoor
open Go.RowKit

def pathS (l : List (List UInt8)) (at_ : Nat) : List (List UInt8) :=
  if h : l.length < 2 then []
  else if at_ < half l.length then pathS (l.take (half l.length)) at_ ++ [treeS (l.drop (half l.length))]
  else pathS (l.drop (half l.length)) (at_ - half l.length) ++ [treeS (l.take (half l.length))]
termination_by l.length
decreasing_by
  · have := half_bd l.length (by omega); rw [List.length_take]; omega
  · have := half_bd l.length (by omega); rw [List.length_drop]; omega
theorem pathS_one (l : List (List UInt8)) (at_ : Nat) (h : l.length < 2) : pathS l at_ = [] := by rw [pathS, dif_pos h]
theorem pathS_lo (l : List (List UInt8)) (at_ : Nat) (h : 2 ≤ l.length) (ha : at_ < half l.length) : pathS l at_ = pathS (l.take (half l.length)) at_ ++ [treeS (l.drop (half l.length))] := by
  rw [pathS, dif_neg (by omega), if_pos ha]
theorem pathS_hi (l : List (List UInt8)) (at_ : Nat) (h : 2 ≤ l.length) (ha : half l.length ≤ at_) : pathS l at_ = pathS (l.drop (half l.length)) (at_ - half l.length) ++ [treeS (l.take (half l.length))] := by
  rw [pathS, dif_neg (by omega), if_neg (by omega)]
theorem pathS_len : ∀ (N : Nat) (l : List (List UInt8)) (at_ : Nat), l.length < N → (pathS l at_).length ≤ l.length
  | 0, l, at_, h => by omega
  | N + 1, l, at_, h => by
    by_cases h2 : l.length < 2
    · rw [pathS_one l at_ h2]; simp
    · have hb := half_bd l.length (by omega)
      by_cases ha : at_ < half l.length
      · have := pathS_len N (l.take (half l.length)) at_ (by rw [List.length_take]; omega)
        rw [pathS_lo l at_ (by omega) ha, List.length_append, List.length_singleton]
        rw [List.length_take] at this; omega
      · have := pathS_len N (l.drop (half l.length)) (at_ - half l.length) (by rw [List.length_drop]; omega)
        rw [pathS_hi l at_ (by omega) (by omega), List.length_append, List.length_singleton]
        rw [List.length_drop] at this; omega
theorem pathS_32 : ∀ (N : Nat) (l : List (List UInt8)) (at_ : Nat), l.length < N → ∀ d ∈ pathS l at_, d.length = 32
  | 0, l, at_, h => by omega
  | N + 1, l, at_, h => by
    intro d hd
    by_cases h2 : l.length < 2
    · rw [pathS_one l at_ h2] at hd; cases hd
    · have hb := half_bd l.length (by omega)
      by_cases ha : at_ < half l.length
      · rw [pathS_lo l at_ (by omega) ha] at hd
        rcases List.mem_append.1 hd with hd | hd
        · exact pathS_32 N _ at_ (by rw [List.length_take]; omega) d hd
        · rw [List.mem_singleton.1 hd]; exact treeS_len _
      · rw [pathS_hi l at_ (by omega) (by omega)] at hd
        rcases List.mem_append.1 hd with hd | hd
        · exact pathS_32 N _ _ (by rw [List.length_drop]; omega) d hd
        · rw [List.mem_singleton.1 hd]; exact treeS_len _

/-- A path that has been made. -/
def MadeD (w : World) (l : List (List UInt8)) (e : Ending) (w' : World) : Prop := ∃ v, e = .returned v ∧ OwnD w.heap.size w' v l ∧ Below w.heap.size w w'

end Go.Proofs.YtmeoicfeiamkmaaDoor
