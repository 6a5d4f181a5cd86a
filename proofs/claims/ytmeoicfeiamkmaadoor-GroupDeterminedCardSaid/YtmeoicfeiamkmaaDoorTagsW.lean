/-
  The walk of chartroomlaw02.DigestTags.
-/
import Derived.Test.YtmeoicfeiamkmaaDoorSan2
namespace Go.Proofs.YtmeoicfeiamkmaaDoor
open Go.RowKit

theorem OwnB.empty {B : Nat} {w : World} (hB : B ≤ w.heap.size) : OwnB B (w.alloc (.cells #[] 5)) (.slice (some ⟨w.heap.size, 0, none⟩) 0 0) [] :=
  ⟨rfl, .inr ⟨w.heap.size, 0, #[], rfl, hB, heap_alloc_new w _, Nat.le_refl _, Nat.zero_le _, rfl, rfl⟩⟩

theorem OwnB.rdOf {B : Nat} {w : World} {a : Option Addr} {n cap : Nat} {l : List UInt8} (h : OwnB B w (.slice a n cap) l) : RdB w.heap.size w a l := by
  obtain ⟨a', cap', e, _, hr⟩ := h.form
  injection e with e1 e2 e3
  rw [e1]; exact hr
theorem step_appBn {ops : Array Oper} {o : Oper} {a : Act} {w : World} {K : Act → World → Prop} {Q : Exit → Act → World → Prop} {E : Prop} (hgd : o.guard = none) (s x : Operand)
    (ho : o.op = .call { callee := .builtin .append, args := #[s, x], argTypes := #[22, 22] })
    (B : Nat) (v : Value) (l l' : List UInt8) (n : Nat) (ad : Option Addr) (cap : Nat) (hs : a.eval s = v) (hx : a.eval x = .slice ad n cap) (hn : n = l'.length) (hown : OwnB B w v l) (hr : RdB w.heap.size w ad l') (hnil : ad = none → cap = 0)
    (hlen : l.length + l'.length ≤ 140737488355328) (hB : B ≤ w.heap.size)
    (h : ∀ v' w', OwnB B w' v' (l ++ l') → Grew w v w' v' → K (a.put o.dst v') w') : if Region.wanted o (yielded ops a.tmps) = true then Oper.wp Tryd.prog o a w K Q else E := by
  subst hn
  exact step_appB hgd s x ho B v l l' ad cap hs hown hx hr hnil hlen hB h
theorem BB.grownBy {w w' : World} {g : Nat} {T : TypeId} {l : List UInt8} {r : Option Nat} (h : BB w g T l) (hg : w.grownBy w' r) (hne : r ≠ some g) : BB w' g T l := (hg.block g h.lt (Ne.symm hne)).trans h
theorem empty_base {B g : Nat} (h : B ≤ g) : ∀ k, (Value.slice (some ⟨g, 0, none⟩) 0 0).ownBlock = some k → B ≤ k := fun k hk => by
  simp [Value.ownBlock] at hk; omega

end Go.Proofs.YtmeoicfeiamkmaaDoor
