/-
  What a reading of an argument of type api.Value, or of a slice of bytes, says of memory.
-/
import Derived.Test.YtihllbblehjhlaaSan
import Derived.ProofKit
import Derived.OpenShut
namespace Go.Proofs.Ytihllbblehjhlaa
open Go.RowKit

section
variable {H : Type} {enc : TypeId × Value → H} {w : World} {spare : Nat → Bool} {held : Bool}

theorem cellsT : Try.prog.cellsOf 3 = 1 ∧ Try.prog.cellsOf 9 = 1 ∧ Try.prog.cellsOf 22 = 1 ∧ Try.prog.cellsOf 24 = 4 ∧ Try.prog.cellsOf 5 = 1 := ⟨by kernel_rfl, by kernel_rfl, by kernel_rfl, by kernel_rfl, by kernel_rfl⟩

/-- A slice's cells are at a plain address. -/
theorem spot_none {a : Addr} {v : Value} (h : w.cell? a = some v) : a.spot = none := by
  unfold World.cell? at h
  split at h
  · split at h
    · cases h
    · rename_i h1; simpa using h1
  · cases h

/-- Elements that are read one by one make a forest. -/
theorem rd_list (n b : Nat) (ih : ∀ (cs : List Value) (x : DataW H × List MemPlace), DataW.trod enc Try.prog w 0 spare held n 24 cs = some x →
      ∃ k i s a cap kids, cs = [.int .i64 k, .int .i64 i, .string s, .slice a kids.len cap] ∧ I64 k ∧ I64 i ∧ s.size ≤ maxLen ∧ RepS w.heap.size w a cap kids) :
    ∀ (len o : Nat), (∀ i, i < len → ∃ cs x, w.cells? 0 ⟨b, o + i * 4, none⟩ 4 = some cs ∧ DataW.trod enc Try.prog w 0 spare held n 24 cs = some x) →
      ∃ f : VL, f.len = len ∧ RepL w.heap.size w b o f := by
  intro len
  induction len with
  | zero => intro o _; exact ⟨.nil, rfl, trivial⟩
  | succ len ihl =>
    intro o h
    obtain ⟨cs, x, h1, h2⟩ := h 0 (by omega)
    obtain ⟨k, i, s, a, cap, kids, rfl, hk, hi, hs, hr⟩ := ih cs x h2
    obtain ⟨f, hf, hrf⟩ := ihl (o + 4) fun j hj => by
      obtain ⟨cs', x', h3, h4⟩ := h (j + 1) (by omega)
      exact ⟨cs', x', by rw [show o + 4 + j * 4 = o + (j + 1) * 4 from by omega]; exact h3, h4⟩
    obtain ⟨_, _, hc⟩ := World.cells?_some h1
    have c0 := hc 0 (by omega)
    have c1 := hc 1 (by omega)
    have c2 := hc 2 (by omega)
    have c3 := hc 3 (by omega)
    rw [addr_add] at c0 c1 c2 c3
    simp only [Nat.zero_mul, Nat.add_zero] at c0 c1 c2 c3
    have hb := World.block_lt_of_cell? w _ c0
    exact ⟨.cons k i s kids f, by simp only [VL.len, hf], hb, hk, hi, hs, c0, c1, c2, ⟨a, cap, c3, hr.1, hr.2⟩, hrf⟩

theorem rd_val : ∀ (fuel : Nat) (cs : List Value) (x : DataW H × List MemPlace), DataW.trod enc Try.prog w 0 spare held fuel 24 cs = some x →
    ∃ k n s a cap kids, cs = [.int .i64 k, .int .i64 n, .string s, .slice a kids.len cap] ∧ I64 k ∧ I64 n ∧ s.size ≤ maxLen ∧ RepS w.heap.size w a cap kids := by
  intro fuel
  induction fuel using Nat.strongRecOn with
  | _ fuel ih =>
  intro cs x h
  obtain ⟨e1, e2, e3, e4, e5⟩ := cellsT
  obtain ⟨xs, n, rfl, _, hl, hlen, hf⟩ := DataW.trod_struct Try.underlying24 h
  rw [e4] at hl
  obtain ⟨c0, c1, c2, c3, rfl⟩ : ∃ a b c d, cs = [a, b, c, d] := by
    match cs, hl with
    | [a, b, c, d], _ => exact ⟨a, b, c, d, rfl⟩
  obtain ⟨y0, y1, y2, y3, rfl⟩ : ∃ a b c d, xs = [a, b, c, d] := by
    match xs, hlen with
    | [a, b, c, d], _ => exact ⟨a, b, c, d, rfl⟩
  have h0 : DataW.trod enc Try.prog w 0 spare held n 3 [c0] = some y0 := by have := hf 0 _ rfl; simpa [e1, e2, e3] using this
  have h1 : DataW.trod enc Try.prog w 0 spare held n 3 [c1] = some y1 := by have := hf 1 _ rfl; simpa [e1, e2, e3] using this
  have h2 : DataW.trod enc Try.prog w 0 spare held n 9 [c2] = some y2 := by have := hf 2 _ rfl; simpa [e1, e2, e3] using this
  have h3 : DataW.trod enc Try.prog w 0 spare held n 22 [c3] = some y3 := by have := hf 3 _ rfl; simpa [e1, e2, e3] using this
  obtain ⟨k, hk, _, wk⟩ := DataW.trod_int Try.underlying3 h0
  obtain ⟨i, hi, _, wi⟩ := DataW.trod_int Try.underlying3 h1
  obtain ⟨s, hs, _, ws⟩ := DataW.trod_string Try.underlying9 h2
  simp only [List.cons.injEq, and_true] at hk hi hs
  subst hk hi hs
  have bk : I64 k := bounds_i64 wk
  have bi : I64 i := bounds_i64 wi
  rcases DataW.trod_slice Try.underlying22 h3 with ⟨h4, _⟩ | ⟨a, len, cap, elems, rest, m, rfl, h4, _, hb, hlc, hcm, hel, hx, _, _⟩
  · simp only [List.cons.injEq, and_true] at h4
    subst h4
    exact ⟨k, i, s, none, 0, .nil, rfl, bk, bi, ws, RepS.nil _ _⟩
  · simp only [List.cons.injEq, and_true] at h4
    subst h4
    rw [e4] at hx
    by_cases hz : len = 0
    · subst hz
      exact ⟨k, i, s, some a, cap, .nil, rfl, bk, bi, ws, Nat.zero_le _, .inl ⟨(fun h => by cases h), rfl⟩⟩
    · have hall : ∀ j, j < len → ∃ cs x, w.cells? 0 (a.add (j * 4)) 4 = some cs ∧ DataW.trod enc Try.prog w 0 spare held m 24 cs = some x := by
        intro j hj
        have h5 := hx j hj
        rw [List.getElem?_eq_getElem (by omega)] at h5
        cases hc : w.cells? 0 (a.add (j * 4)) 4 with
        | none => rw [hc] at h5; cases h5
        | some cs => rw [hc] at h5; exact ⟨cs, _, rfl, h5⟩
      have hsp : a.spot = none := by
        obtain ⟨cs, x, h5, _⟩ := hall 0 (by omega)
        have h6 := (World.cells?_some h5).2.2 0 (by omega)
        have hl4 := (World.cells?_some h5).2.1
        rw [List.getElem?_eq_getElem (by omega)] at h6
        exact spot_none (by simpa [Addr.add] using h6)
      obtain ⟨b, o, sp⟩ := a
      simp only at hsp
      subst hsp
      obtain ⟨f, hf1, hf2⟩ := rd_list m b (fun cs x => ih m (by omega) cs x) len o fun j hj => by
        obtain ⟨cs, x, h5, h6⟩ := hall j hj
        rw [addr_add] at h5
        exact ⟨cs, x, h5, h6⟩
      exact ⟨k, i, s, _, cap, f, by rw [hf1], bk, bi, ws, by rw [hf1]; omega, .inr ⟨b, o, rfl, hf2⟩⟩

/-- A slice of values that is read. -/
theorem rd_slice {fuel : Nat} {c : Value} {x : DataW H × List MemPlace} (h : DataW.trod enc Try.prog w 0 spare held fuel 22 [c] = some x) : ∃ a cap kids, c = .slice a (VL.len kids) cap ∧ RepS w.heap.size w a cap kids := by
  obtain ⟨e1, e2, e3, e4, e5⟩ := cellsT
  rcases DataW.trod_slice Try.underlying22 h with ⟨h4, _⟩ | ⟨a, len, cap, elems, rest, m, rfl, h4, _, hb, hlc, hcm, hel, hx, _, _⟩
  · simp only [List.cons.injEq, and_true] at h4
    subst h4
    exact ⟨none, 0, .nil, rfl, RepS.nil _ _⟩
  · simp only [List.cons.injEq, and_true] at h4
    subst h4
    rw [e4] at hx
    by_cases hz : len = 0
    · subst hz
      exact ⟨some a, cap, .nil, rfl, Nat.zero_le _, .inl ⟨(fun h => by cases h), rfl⟩⟩
    · have hall : ∀ j, j < len → ∃ cs x, w.cells? 0 (a.add (j * 4)) 4 = some cs ∧ DataW.trod enc Try.prog w 0 spare held m 24 cs = some x := by
        intro j hj
        have h5 := hx j hj
        rw [List.getElem?_eq_getElem (by omega)] at h5
        cases hc : w.cells? 0 (a.add (j * 4)) 4 with
        | none => rw [hc] at h5; cases h5
        | some cs => rw [hc] at h5; exact ⟨cs, _, rfl, h5⟩
      have hsp : a.spot = none := by
        obtain ⟨cs, x, h5, _⟩ := hall 0 (by omega)
        have h6 := (World.cells?_some h5).2.2 0 (by omega)
        have hl4 := (World.cells?_some h5).2.1
        rw [List.getElem?_eq_getElem (by omega)] at h6
        exact spot_none (by simpa [Addr.add] using h6)
      obtain ⟨b, o, sp⟩ := a
      simp only at hsp
      subst hsp
      obtain ⟨f, hf1, hf2⟩ := rd_list m b (fun cs x => rd_val m cs x) len o fun j hj => by
        obtain ⟨cs, x, h5, h6⟩ := hall j hj
        rw [addr_add] at h5
        exact ⟨cs, x, h5, h6⟩
      exact ⟨_, cap, f, by rw [hf1], by rw [hf1]; omega, .inr ⟨b, o, rfl, hf2⟩⟩
end
end Go.Proofs.Ytihllbblehjhlaa
