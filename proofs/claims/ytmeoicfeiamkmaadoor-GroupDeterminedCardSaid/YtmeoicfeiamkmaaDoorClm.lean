/-
  Path, pathLength, climb and Climb of package digest.
-/
import Derived.Test.YtmeoicfeiamkmaaDoorPth
namespace Go.Proofs.YtmeoicfeiamkmaaDoor
open Go.RowKit

def OkD (w : World) (l : List (List UInt8)) (e : Ending) (w' : World) : Prop := ∃ v, e = .returned (.tuple #[v, .int .i64 0]) ∧ OwnD w.heap.size w' v l ∧ Below w.heap.size w w'
def lenS (at_ n : Nat) : Nat :=
  if h : n < 2 then 0
  else if at_ < half n then lenS at_ (half n) + 1
  else lenS (at_ - half n) (n - half n) + 1
termination_by n
decreasing_by
  · have := half_bd n (by omega); omega
  · have := half_bd n (by omega); omega
theorem lenS_one (at_ n : Nat) (h : n < 2) : lenS at_ n = 0 := by rw [lenS, dif_pos h]
theorem lenS_lo (at_ n : Nat) (h : 2 ≤ n) (ha : at_ < half n) : lenS at_ n = lenS at_ (half n) + 1 := by rw [lenS, dif_neg (by omega), if_pos ha]
theorem lenS_hi (at_ n : Nat) (h : 2 ≤ n) (ha : half n ≤ at_) : lenS at_ n = lenS (at_ - half n) (n - half n) + 1 := by rw [lenS, dif_neg (by omega), if_neg (by omega)]
theorem lenS_le : ∀ (N at_ n : Nat), n < N → lenS at_ n ≤ n
  | 0, _, _, h => by omega
  | N + 1, at_, n, h => by
    by_cases h2 : n < 2
    · rw [lenS_one _ _ h2]; omega
    · have hb := half_bd n (by omega)
      by_cases ha : at_ < half n
      · have := lenS_le N at_ (half n) (by omega)
        rw [lenS_lo _ _ (by omega) ha]; omega
      · have := lenS_le N (at_ - half n) (n - half n) (by omega)
        rw [lenS_hi _ _ (by omega) (by omega)]; omega
theorem pathS_lenS : ∀ (N : Nat) (l : List (List UInt8)) (at_ : Nat), l.length < N → (pathS l at_).length = lenS at_ l.length
  | 0, l, at_, h => by omega
  | N + 1, l, at_, h => by
    by_cases h2 : l.length < 2
    · rw [pathS_one l at_ h2, lenS_one _ _ h2]; rfl
    · have hb := half_bd l.length (by omega)
      by_cases ha : at_ < half l.length
      · rw [pathS_lo l at_ (by omega) ha, lenS_lo _ _ (by omega) ha, List.length_append, pathS_lenS N _ at_ (by rw [List.length_take]; omega), List.length_take, Nat.min_eq_left (by omega)]; rfl
      · rw [pathS_hi l at_ (by omega) (by omega), lenS_hi _ _ (by omega) (by omega), List.length_append, pathS_lenS N _ _ (by rw [List.length_drop]; omega), List.length_drop]; rfl

def climbS (d : List UInt8) (at_ n : Nat) (p : List (List UInt8)) : List UInt8 :=
  if h : n < 2 then leafS d
  else if at_ < half n then nodeS (climbS d at_ (half n) (p.take (p.length - 1))) (p.getD (p.length - 1) [])
  else nodeS (p.getD (p.length - 1) []) (climbS d (at_ - half n) (n - half n) (p.take (p.length - 1)))
termination_by n
decreasing_by
  · have := half_bd n (by omega); omega
  · have := half_bd n (by omega); omega
theorem climbS_one (d : List UInt8) (at_ n : Nat) (p : List (List UInt8)) (h : n < 2) : climbS d at_ n p = leafS d := by rw [climbS, dif_pos h]
theorem climbS_lo (d : List UInt8) (at_ n : Nat) (p : List (List UInt8)) (h : 2 ≤ n) (ha : at_ < half n) : climbS d at_ n p = nodeS (climbS d at_ (half n) (p.take (p.length - 1))) (p.getD (p.length - 1) []) := by
  rw [climbS, dif_neg (by omega), if_pos ha]
theorem climbS_hi (d : List UInt8) (at_ n : Nat) (p : List (List UInt8)) (h : 2 ≤ n) (ha : half n ≤ at_) : climbS d at_ n p = nodeS (p.getD (p.length - 1) []) (climbS d (at_ - half n) (n - half n) (p.take (p.length - 1))) := by
  rw [climbS, dif_neg (by omega), if_neg (by omega)]
theorem climbS_len (d : List UInt8) (at_ n : Nat) (p : List (List UInt8)) : (climbS d at_ n p).length = 32 := by
  rw [climbS]
  split
  · exact tagS_len _ _
  · split <;> exact tagS_len _ _
/-- A path leads to the digest of its list. -/
theorem climb_path : ∀ (N : Nat) (l : List (List UInt8)) (at_ : Nat) (d : List UInt8) (h : l[at_]? = some d), l.length < N → climbS d at_ l.length (pathS l at_) = treeS l
  | 0, l, at_, d, h, hN => by omega
  | N + 1, l, at_, d, h, hN => by
    have hlt : at_ < l.length := (List.getElem?_eq_some_iff.1 h).1
    by_cases h2 : l.length < 2
    · rw [climbS_one _ _ _ _ h2]
      obtain ⟨x, rfl⟩ := List.length_eq_one_iff.1 (show l.length = 1 by omega)
      obtain rfl : at_ = 0 := by simpa using hlt
      rw [treeS_one]
      injection h with h
      rw [h]
    · have hb := half_bd l.length (by omega)
      by_cases ha : at_ < half l.length
      · have ih := climb_path N (l.take (half l.length)) at_ d (by rw [List.getElem?_take_of_lt ha]; exact h) (by rw [List.length_take]; omega)
        rw [List.length_take, Nat.min_eq_left (by omega)] at ih
        rw [climbS_lo _ _ _ _ (by omega) ha, pathS_lo l at_ (by omega) ha, treeS_node l (by omega), List.length_append, List.length_singleton, Nat.add_sub_cancel, List.take_left, ih]
        congr 1
        simp
      · have ih := climb_path N (l.drop (half l.length)) (at_ - half l.length) d (by rw [List.getElem?_drop, show half l.length + (at_ - half l.length) = at_ by omega]; exact h) (by rw [List.length_drop]; omega)
        rw [List.length_drop] at ih
        rw [climbS_hi _ _ _ _ (by omega) (by omega), pathS_hi l at_ (by omega) (by omega), treeS_node l (by omega), List.length_append, List.length_singleton, Nat.add_sub_cancel, List.take_left, ih]
        congr 1
        simp

end Go.Proofs.YtmeoicfeiamkmaaDoor
