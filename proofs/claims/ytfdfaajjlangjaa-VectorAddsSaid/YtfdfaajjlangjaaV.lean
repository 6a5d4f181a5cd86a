/-
  Values of package codec as forests, what a world must hold of one, and the plain functions of the layer: well-formed, depth, size, encoding.
-/
import Derived.Test.YtfdfaajjlangjaaChecked
import Derived.WalkKit
import Derived.WalkSpells
import Derived.WalkLawsBesides
import Derived.Lib.Hide
namespace Go.Proofs.Ytfdfaajjlangjaa
open Go.RowKit

/-- A list of values: the first one's fields, its elements, the other values. -/
inductive VL where
  | nil : VL
  | cons (k n : Int) (s : ByteArray) (kids rest : VL) : VL

namespace VL
def len : VL → Nat
  | .nil => 0
  | .cons _ _ _ _ r => r.len + 1
def sz : VL → Nat
  | .nil => 1
  | .cons _ _ _ kids r => kids.sz + r.sz + 1
def isNil : VL → Bool
  | .nil => true
  | .cons _ _ _ _ _ => false
def wf : VL → Bool
  | .nil => true
  | .cons k n s kids r => (if k = 1 then s.toList.isEmpty && kids.isNil else if k = 2 then n == 0 && kids.isNil else if k = 3 then kids.wf && (n == 0 && s.toList.isEmpty) else false) && r.wf
def depth : VL → Nat
  | .nil => 0
  | .cons k _ _ kids r => max (if k = 3 then 1 + kids.depth else 0) r.depth
end VL

/-- A number that fits an int. -/
def I64 (n : Int) : Prop := -9223372036854775808 ≤ n ∧ n ≤ 9223372036854775807

/-- From offset o on, block b holds the values of a forest, four cells each; all that they reach lies below block B. -/
def RepL (B : Nat) (w : World) : Nat → Nat → VL → Prop
  | _, _, .nil => True
  | b, o, .cons k n s kids r => b < B ∧ I64 k ∧ I64 n ∧ s.size ≤ maxLen ∧
      w.cell? ⟨b, o, none⟩ = some (.int .i64 k) ∧ w.cell? ⟨b, o + 1, none⟩ = some (.int .i64 n) ∧ w.cell? ⟨b, o + 2, none⟩ = some (.string s) ∧
      (∃ a cap, w.cell? ⟨b, o + 3, none⟩ = some (.slice a kids.len cap) ∧ kids.len ≤ maxLen ∧ (((a = none → cap = 0) ∧ kids = .nil) ∨ ∃ b' o', a = some ⟨b', o', none⟩ ∧ RepL B w b' o' kids)) ∧
      RepL B w b (o + 4) r

/-- The elements of a value: nil, or a slice over a forest. -/
def RepS (B : Nat) (w : World) (a : Option Addr) (cap : Nat) (kids : VL) : Prop :=
  kids.len ≤ maxLen ∧ (((a = none → cap = 0) ∧ kids = .nil) ∨ ∃ b' o', a = some ⟨b', o', none⟩ ∧ RepL B w b' o' kids)

theorem RepL.below {B : Nat} {w w' : World} (hb : Below B w w') : ∀ (f : VL) (b o : Nat), RepL B w b o f → RepL B w' b o f := by
  intro f
  induction f with
  | nil => intro b o _; trivial
  | cons k n s kids r ihk ihr =>
    intro b o h
    obtain ⟨h0, h1, h2, h3, h4, h5, h6, ⟨a, cap, h7, hl, h8⟩, h9⟩ := h
    have c : ∀ j, w'.cell? ⟨b, j, none⟩ = w.cell? ⟨b, j, none⟩ := fun j => hb.cell (p := ⟨b, j, none⟩) h0
    refine ⟨h0, h1, h2, h3, (c _).trans h4, (c _).trans h5, (c _).trans h6, ⟨a, cap, (c _).trans h7, hl, ?_⟩, ihr _ _ h9⟩
    rcases h8 with h8 | ⟨b', o', e, h8⟩
    · exact .inl h8
    · exact .inr ⟨b', o', e, ihk _ _ h8⟩

theorem RepS.below {B : Nat} {w w' : World} (hb : Below B w w') {a : Option Addr} {cap : Nat} {f : VL} (h : RepS B w a cap f) : RepS B w' a cap f := by
  obtain ⟨hl, h⟩ := h
  rcases h with h8 | ⟨b', o', e, h8⟩
  · exact ⟨hl, .inl h8⟩
  · exact ⟨hl, .inr ⟨b', o', e, h8.below hb _ _ _⟩⟩

theorem RepL.mono {B B' : Nat} {w : World} (hB : B ≤ B') : ∀ (f : VL) (b o : Nat), RepL B w b o f → RepL B' w b o f := by
  intro f
  induction f with
  | nil => intro b o _; trivial
  | cons k n s kids r ihk ihr =>
    intro b o h
    obtain ⟨h0, h1, h2, h3, h4, h5, h6, ⟨a, cap, h7, hl, h8⟩, h9⟩ := h
    refine ⟨Nat.lt_of_lt_of_le h0 hB, h1, h2, h3, h4, h5, h6, ⟨a, cap, h7, hl, ?_⟩, ihr _ _ h9⟩
    rcases h8 with h8 | ⟨b', o', e, h8⟩
    · exact .inl h8
    · exact .inr ⟨b', o', e, ihk _ _ h8⟩
theorem RepS.mono {B B' : Nat} {w : World} {a : Option Addr} {cap : Nat} {f : VL} (h : RepS B w a cap f) (hB : B ≤ B') : RepS B' w a cap f := by
  obtain ⟨hl, h⟩ := h
  rcases h with h8 | ⟨b', o', e, h8⟩
  · exact ⟨hl, .inl h8⟩
  · exact ⟨hl, .inr ⟨b', o', e, h8.mono hB _ _ _⟩⟩

/-- A slice over a forest, as one address: what a loop over it needs. -/
theorem RepS.at {B : Nat} {w : World} {a : Option Addr} {cap : Nat} {f : VL} (h : RepS B w a cap f) : ∃ b o, RepL B w b o f ∧ Hid (f = .nil ∨ a = some ⟨b, o, none⟩) := by
  rcases h.2 with ⟨_, rfl⟩ | ⟨b, o, e, h8⟩
  · exact ⟨0, 0, trivial, .inl rfl⟩
  · exact ⟨b, o, h8, .inr e⟩

theorem VL.sz_pos (f : VL) : 1 ≤ f.sz := by cases f <;> simp [VL.sz]
theorem VL.isNil_len (f : VL) : f.isNil = ((f.len : Int) == 0) := by
  cases f with
  | nil => rfl
  | cons k n s a r => simp only [VL.isNil, VL.len]; exact (beq_eq_false_iff_ne.2 (by omega)).symm
/-- Of one value. -/
def vwf (k n : Int) (s : ByteArray) (kids : VL) : Bool := if k = 1 then s.toList.isEmpty && kids.isNil else if k = 2 then n == 0 && kids.isNil else if k = 3 then kids.wf && (n == 0 && s.toList.isEmpty) else false
theorem vwf3 (n : Int) (s : ByteArray) (kids : VL) : vwf 3 n s kids = (kids.wf && (n == 0 && s.toList.isEmpty)) := rfl
theorem VL.wf_cons (k n : Int) (s : ByteArray) (kids r : VL) : (VL.cons k n s kids r).wf = (vwf k n s kids && r.wf) := rfl
theorem VL.nil_of_len {f : VL} (h : f.len = 0) : f = .nil := by cases f <;> simp_all [VL.len]

theorem int_max_nat (k : IntKind) (p q : Nat) : Value.int k (if p < q then (q : Int) else (p : Int)) = Value.int k ((max p q : Nat) : Int) := by
  congr 1; split <;> omega
/-- A new block, then a call that leaves all that was there before it as it was. -/
theorem below_alloc_call {B : Nat} {a w w1 : World} {o : Obj} (h : Below B a w) (hB : B ≤ w.heap.size) (h1 : Below (w.alloc o).heap.size (w.alloc o) w1) : Below B a w1 :=
  (h.alloc hB o).trans (h1.mono (by simp; omega))
theorem below_call {B : Nat} {a w w1 : World} (h : Below B a w) (hB : B ≤ w.heap.size) (h1 : Below w.heap.size w w1) : Below B a w1 := h.trans (h1.mono hB)
theorem below_start {w w1 : World} {o : Obj} (h1 : Below (w.heap.size + 1) (w.alloc o) w1) : Below w.heap.size w w1 :=
  ((Below.refl _ _).alloc (Nat.le_refl _) _).trans (h1.mono (by omega))
end Go.Proofs.Ytfdfaajjlangjaa
