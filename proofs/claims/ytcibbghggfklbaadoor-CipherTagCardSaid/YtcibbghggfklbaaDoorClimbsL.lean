/-
  Lemmas on the statements' lists and their paths.
-/
import Derived.Test.YtcibbghggfklbaaDoorPkC
import Derived.Test.YtcibbghggfklbaaDoorDof
namespace Go.Proofs.YtcibbghggfklbaaDoor
open Go.RowKit

theorem digs_32 (script : List UInt8) : ∀ d ∈ digs script, d.length = 32 := by
  intro d hd
  unfold digs digN at hd
  obtain ⟨i, _, rfl⟩ := List.mem_map.1 hd
  exact dig1_len _ _
theorem OwnD.rdOf {B : Nat} {w : World} {a : Option Addr} {n cap : Nat} {l : List (List UInt8)} (h : OwnD B w (.slice a n cap) l) : RdD w.heap.size w a l ∧ l.length ≤ cap ∧ cap ≤ maxLen ∧ (a = none → cap = 0) := by
  obtain ⟨a', cap', e, h1, h2, h3, h4⟩ := h.form
  injection e with e1 e2 e3
  rw [e1, e3]; exact ⟨h4, h1, h2, h3⟩
/-- Paths of lists of up to 24 elements. -/
theorem lenS_24 : ∀ n, n < 25 → ∀ at_, at_ < n → lenS at_ n ≤ 5 := by
  have hl : ∀ (j at_ n : Nat), at_ < n → n ≤ 2 ^ j → lenS at_ n ≤ j := by
    intro j
    induction j with
    | zero => intro at_ n h1 h2; rw [lenS_one _ _ (by omega)]; omega
    | succ j ih =>
      intro at_ n h1 h2
      by_cases h : n < 2
      · rw [lenS_one _ _ h]; omega
      · have hb := half_bd n (by omega)
        have hle : half n ≤ 2 ^ j := by
          unfold half
          refine Nat.pow_le_pow_right (by decide) ?_
          have := (Nat.log2_lt (n := n - 1) (k := j + 1) (by omega)).2 (by omega)
          omega
        by_cases ha : at_ < half n
        · rw [lenS_lo _ _ (by omega) ha]; have := ih at_ (half n) ha hle; omega
        · rw [lenS_hi _ _ (by omega) (by omega)]; have := ih (at_ - half n) (n - half n) (by omega) (by omega); omega
  intro n hn at_ ha
  exact hl 5 at_ n ha (by omega)

end Go.Proofs.YtcibbghggfklbaaDoor
