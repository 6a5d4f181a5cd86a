/-
  Values of package codec as forests, what a world must hold of one, and the plain functions of the layer: well-formed, depth, size, encoding.
  Slices of bytes: what a world must hold of one that is read, of one that the call owns; appending to one.
  Bytes as strings, and comparing them so.
  Words of 32 bits as natural numbers: the operations of a hash function, and what the model's operations on uint32 make of them.
  Contracts of the functions that read words out of bytes: word of the reference, words of package digest.
  A copy into a row that is known whole; the schedule of a block's words.
  The compression of one block: (*hasher).absorb.
-/
import Derived.Test.YteigldfdaciopaaGreatDoorChecked
import Derived.WalkKit
import Derived.WalkSpells
import Derived.WalkLawsBesides
import Derived.Lib.Hide
import Derived.Lib.AppendStr
import Derived.Laws.AppendOwnNone
import Derived.Maps.AppendAt
import Derived.Laws.MakeOwn
import Derived.Laws.IdiomStrings
import Derived.Laws.Bits64
import Derived.Deep.QuietTactic
import Derived.BigQuiet
import Derived.StillTailTactics
import Derived.Laws.Rows
import Derived.Laws.CopyOwn
import Derived.IntWalk
import Derived.Deep.MidRow
import Derived.Deep.WholeRow
set_option linter.unusedVariables false
set_option linter.unusedSimpArgs false
namespace Go.Proofs.YteigldfdaciopaaGreatDoor
open Go.RowKit

/-- A list of values: the first one's fields, its elements, the other values. -/
inductive VL where
  | nil : VL
  | cons (k n : Int) (s : ByteArray) (kids rest : VL) : VL

namespace VL
def len : VL → Nat
  | .nil => 0
  | .cons _ _ _ _ r => r.len + 1
def sz : VL → Nat
  | .nil => 1
  | .cons _ _ _ kids r => kids.sz + r.sz + 1
def isNil : VL → Bool
  | .nil => true
  | .cons _ _ _ _ _ => false
def wf : VL → Bool
  | .nil => true
  | .cons k n s kids r => (if k = 1 then s.toList.isEmpty && kids.isNil else if k = 2 then n == 0 && kids.isNil else if k = 3 then kids.wf && (n == 0 && s.toList.isEmpty) else false) && r.wf
def depth : VL → Nat
  | .nil => 0
  | .cons k _ _ kids r => max (if k = 3 then 1 + kids.depth else 0) r.depth
end VL

/-- A number that fits an int. -/
def I64 (n : Int) : Prop := -9223372036854775808 ≤ n ∧ n ≤ 9223372036854775807

/-- From offset o on, block b holds the values of a forest, four cells each; all that they reach lies below block B. -/
def RepL (B : Nat) (w : World) : Nat → Nat → VL → Prop
  | _, _, .nil => True
  | b, o, .cons k n s kids r => b < B ∧ I64 k ∧ I64 n ∧ s.size ≤ maxLen ∧
      w.cell? ⟨b, o, none⟩ = some (.int .i64 k) ∧ w.cell? ⟨b, o + 1, none⟩ = some (.int .i64 n) ∧ w.cell? ⟨b, o + 2, none⟩ = some (.string s) ∧
      (∃ a cap, w.cell? ⟨b, o + 3, none⟩ = some (.slice a kids.len cap) ∧ kids.len ≤ maxLen ∧ (((a = none → cap = 0) ∧ kids = .nil) ∨ ∃ b' o', a = some ⟨b', o', none⟩ ∧ RepL B w b' o' kids)) ∧
      RepL B w b (o + 4) r

/-- The elements of a value: nil, or a slice over a forest. -/
def RepS (B : Nat) (w : World) (a : Option Addr) (cap : Nat) (kids : VL) : Prop :=
  kids.len ≤ maxLen ∧ (((a = none → cap = 0) ∧ kids = .nil) ∨ ∃ b' o', a = some ⟨b', o', none⟩ ∧ RepL B w b' o' kids)

theorem RepL.below {B : Nat} {w w' : World} (hb : Below B w w') : ∀ (f : VL) (b o : Nat), RepL B w b o f → RepL B w' b o f := by
  intro f
  induction f with
  | nil => intro b o _; trivial
  | cons k n s kids r ihk ihr =>
    intro b o h
    obtain ⟨h0, h1, h2, h3, h4, h5, h6, ⟨a, cap, h7, hl, h8⟩, h9⟩ := h
    have c : ∀ j, w'.cell? ⟨b, j, none⟩ = w.cell? ⟨b, j, none⟩ := fun j => hb.cell (p := ⟨b, j, none⟩) h0
    refine ⟨h0, h1, h2, h3, (c _).trans h4, (c _).trans h5, (c _).trans h6, ⟨a, cap, (c _).trans h7, hl, ?_⟩, ihr _ _ h9⟩
    rcases h8 with h8 | ⟨b', o', e, h8⟩
    · exact .inl h8
    · exact .inr ⟨b', o', e, ihk _ _ h8⟩

theorem RepS.below {B : Nat} {w w' : World} (hb : Below B w w') {a : Option Addr} {cap : Nat} {f : VL} (h : RepS B w a cap f) : RepS B w' a cap f := by
  obtain ⟨hl, h⟩ := h
  rcases h with h8 | ⟨b', o', e, h8⟩
  · exact ⟨hl, .inl h8⟩
  · exact ⟨hl, .inr ⟨b', o', e, h8.below hb _ _ _⟩⟩

theorem RepL.mono {B B' : Nat} {w : World} (hB : B ≤ B') : ∀ (f : VL) (b o : Nat), RepL B w b o f → RepL B' w b o f := by
  intro f
  induction f with
  | nil => intro b o _; trivial
  | cons k n s kids r ihk ihr =>
    intro b o h
    obtain ⟨h0, h1, h2, h3, h4, h5, h6, ⟨a, cap, h7, hl, h8⟩, h9⟩ := h
    refine ⟨Nat.lt_of_lt_of_le h0 hB, h1, h2, h3, h4, h5, h6, ⟨a, cap, h7, hl, ?_⟩, ihr _ _ h9⟩
    rcases h8 with h8 | ⟨b', o', e, h8⟩
    · exact .inl h8
    · exact .inr ⟨b', o', e, ihk _ _ h8⟩
theorem RepS.mono {B B' : Nat} {w : World} {a : Option Addr} {cap : Nat} {f : VL} (h : RepS B w a cap f) (hB : B ≤ B') : RepS B' w a cap f := by
  obtain ⟨hl, h⟩ := h
  rcases h with h8 | ⟨b', o', e, h8⟩
  · exact ⟨hl, .inl h8⟩
  · exact ⟨hl, .inr ⟨b', o', e, h8.mono hB _ _ _⟩⟩

/-- A slice over a forest, as one address: what a loop over it needs. -/
theorem RepS.at {B : Nat} {w : World} {a : Option Addr} {cap : Nat} {f : VL} (h : RepS B w a cap f) : ∃ b o, RepL B w b o f ∧ Hid (f = .nil ∨ a = some ⟨b, o, none⟩) := by
  rcases h.2 with ⟨_, rfl⟩ | ⟨b, o, e, h8⟩
  · exact ⟨0, 0, trivial, .inl rfl⟩
  · exact ⟨b, o, h8, .inr e⟩

theorem VL.sz_pos (f : VL) : 1 ≤ f.sz := by cases f <;> simp [VL.sz]
theorem VL.isNil_len (f : VL) : f.isNil = ((f.len : Int) == 0) := by
  cases f with
  | nil => rfl
  | cons k n s a r => simp only [VL.isNil, VL.len]; exact (beq_eq_false_iff_ne.2 (by omega)).symm
/-- Of one value. -/
def vwf (k n : Int) (s : ByteArray) (kids : VL) : Bool := if k = 1 then s.toList.isEmpty && kids.isNil else if k = 2 then n == 0 && kids.isNil else if k = 3 then kids.wf && (n == 0 && s.toList.isEmpty) else false
theorem vwf3 (n : Int) (s : ByteArray) (kids : VL) : vwf 3 n s kids = (kids.wf && (n == 0 && s.toList.isEmpty)) := rfl
theorem VL.wf_cons (k n : Int) (s : ByteArray) (kids r : VL) : (VL.cons k n s kids r).wf = (vwf k n s kids && r.wf) := rfl
theorem VL.nil_of_len {f : VL} (h : f.len = 0) : f = .nil := by cases f <;> simp_all [VL.len]

theorem int_max_nat (k : IntKind) (p q : Nat) : Value.int k (if p < q then (q : Int) else (p : Int)) = Value.int k ((max p q : Nat) : Int) := by
  congr 1; split <;> omega
/-- A new block, then a call that leaves all that was there before it as it was. -/
theorem below_alloc_call {B : Nat} {a w w1 : World} {o : Obj} (h : Below B a w) (hB : B ≤ w.heap.size) (h1 : Below (w.alloc o).heap.size (w.alloc o) w1) : Below B a w1 :=
  (h.alloc hB o).trans (h1.mono (by simp; omega))
theorem below_call {B : Nat} {a w w1 : World} (h : Below B a w) (hB : B ≤ w.heap.size) (h1 : Below w.heap.size w w1) : Below B a w1 := h.trans (h1.mono hB)
theorem below_start {w w1 : World} {o : Obj} (h1 : Below (w.heap.size + 1) (w.alloc o) w1) : Below w.heap.size w w1 :=
  ((Below.refl _ _).alloc (Nat.le_refl _) _).trans (h1.mono (by omega))
end Go.Proofs.YteigldfdaciopaaGreatDoor

namespace Go.Proofs.YteigldfdaciopaaGreatDoor
open Go.RowKit

/-- A byte as a value. -/
def bv (c : UInt8) : Value := .int .u8 (c.toNat : Int)

/-- The slice value v owns the bytes l, in blocks from B on. -/
def OwnB (B : Nat) (w : World) (v : Value) (l : List UInt8) : Prop := w.ownsRow B 5 1 v l.length (l.map bv)

/-- The slice .slice a l.length cap holds the bytes l, below block B. -/
def RdB (B : Nat) (w : World) (a : Option Addr) (l : List UInt8) : Prop :=
  l.length ≤ maxLen ∧ (l = [] ∨ ∃ b o, a = some ⟨b, o, none⟩ ∧ b < B ∧ ∀ j (h : j < l.length), w.cell? ⟨b, o + j, none⟩ = some (bv l[j]))

theorem byteInfo : (Tryz.prog.info? 5).map (fun i => (i.zero, i.size, i.bytes)) = some (some (.int .u8 0), 1, 1) := by kernel_rfl

/-- make([]byte, 0, n). -/
theorem run_makeB (n : Nat) (hn : n ≤ 140737488355328) (W : World) : (Instr.makeSlice 66 (.int .i64 0) (.int .i64 (n : Int))).run Tryz.prog W = .ok (.slice (some ⟨W.heap.size, 0, none⟩) 0 n) (W.alloc (.cells (madeCells #[.int .u8 0] n) 5)) := by
  obtain ⟨i0, hi, hz0, hz1, hz2⟩ := info_parts byteInfo
  have := run_make (P := Tryz.prog) W 66 5 i0 (.int .u8 0) Tryz.underlying66 hi hz0 .i64 .i64 0 (n : Int) (by omega) (by omega) (by rw [hz2]; omega) (by omega)
  rw [hz1, Int.toNat_natCast, Nat.mul_one] at this
  exact this
theorem OwnB.made {B : Nat} {w : World} (n : Nat) (hn : n ≤ 140737488355328) (hB : B ≤ w.heap.size) : OwnB B (w.alloc (.cells (madeCells #[.int .u8 0] n) 5)) (.slice (some ⟨w.heap.size, 0, none⟩) 0 n) [] := by
  exact World.ownsRow_made w _ n hB (by unfold maxLen; omega) (by rw [size_madeCells, Nat.mul_one])
theorem OwnB.nil (B : Nat) (w : World) : OwnB B w (.slice none 0 0) [] := World.ownsRow_nil _ _ _ _
theorem OwnB.below {B : Nat} {w w' : World} {v : Value} {l : List UInt8} (h : OwnB B w v l) (hb : Below w.heap.size w w') : OwnB B w' v l := by
  refine ⟨h.1, ?_⟩
  rcases h.2 with h2 | ⟨g, cap, cur, hv, hg, hh, r⟩
  · exact .inl h2
  · exact .inr ⟨g, cap, cur, hv, hg, by rw [hb.block g (Array.getElem?_eq_some_iff.1 hh).1]; exact hh, r⟩
theorem OwnB.mono {B B' : Nat} {w : World} {v : Value} {l : List UInt8} (h : OwnB B w v l) (hB : B' ≤ B) : OwnB B' w v l := by
  refine ⟨h.1, ?_⟩
  rcases h.2 with h2 | ⟨g, cap, cur, hv, hg, r⟩
  · exact .inl h2
  · exact .inr ⟨g, cap, cur, hv, by omega, r⟩
theorem OwnB.alloc {B : Nat} {w : World} {v : Value} {l : List UInt8} (h : OwnB B w v l) (o : Obj) : OwnB B (w.alloc o) v l := World.ownsRow.alloc h o
theorem OwnB.drew {B : Nat} {w : World} {v : Value} {l : List UInt8} (h : OwnB B w v l) : OwnB B w.drew v l := h
theorem OwnB.drewN {B : Nat} {w : World} {v : Value} {l : List UInt8} (h : OwnB B w v l) (n : Nat) : OwnB B (w.drewN n) v l := h

/-- The form of an owned slice of bytes; each byte's cell. -/
theorem OwnB.form {B : Nat} {w : World} {v : Value} {l : List UInt8} (h : OwnB B w v l) : ∃ a cap, v = .slice a l.length cap ∧ ((a = none ∧ cap = 0 ∧ l = []) ∨ ∃ g, a = some ⟨g, 0, none⟩ ∧ B ≤ g ∧ g < w.heap.size) ∧ RdB w.heap.size w a l := by
  have hc := @World.ownsRow.cells w B _ 1 v l.length (l.map bv) h
  rcases h.2 with ⟨rfl, h0⟩ | ⟨g, cap, cur, rfl, hg, hh, h3, h4, r⟩
  · have : l = [] := List.eq_nil_of_length_eq_zero h0
    subst this
    exact ⟨none, 0, rfl, .inl ⟨rfl, rfl, rfl⟩, Nat.zero_le _, .inl rfl⟩
  · have hg2 := (Array.getElem?_eq_some_iff.1 hh).1
    refine ⟨some ⟨g, 0, none⟩, cap, rfl, .inr ⟨g, rfl, hg, hg2⟩, by omega, .inr ⟨g, 0, rfl, hg2, fun j hj => ?_⟩⟩
    have := hc (g := g) rfl j (bv l[j]) (by simp [hj])
    rw [← this]; congr 1; simp [Addr.add]

theorem OwnB.caps {B : Nat} {w : World} {a : Option Addr} {n cap : Nat} {l : List UInt8} (h : OwnB B w (.slice a n cap) l) : l.length ≤ cap ∧ cap ≤ maxLen := by
  rcases h.2 with ⟨h1, h2⟩ | ⟨g, cap', cur, h1, _, _, h2, h3, _⟩
  · injection h1 with h1 h3 h4; rw [h4, h2]; exact ⟨Nat.le_refl _, Nat.zero_le _⟩
  · injection h1 with h1 h4 h5; rw [h5]; exact ⟨h2, h3⟩
theorem RdB.below {B : Nat} {w w' : World} {a : Option Addr} {l : List UInt8} (h : RdB B w a l) (hb : Below B w w') : RdB B w' a l := by
  refine ⟨h.1, ?_⟩
  rcases h.2 with h2 | ⟨b, o, ha, hB, hc⟩
  · exact .inl h2
  · exact .inr ⟨b, o, ha, hB, fun j hj => (hb.cell (p := ⟨b, o + j, none⟩) hB).trans (hc j hj)⟩
theorem RdB.mono {B B' : Nat} {w : World} {a : Option Addr} {l : List UInt8} (h : RdB B w a l) (hB : B ≤ B') : RdB B' w a l := by
  refine ⟨h.1, ?_⟩
  rcases h.2 with h2 | ⟨b, o, ha, hb, hc⟩
  · exact .inl h2
  · exact .inr ⟨b, o, ha, by omega, hc⟩

theorem RdB.one {w : World} {g : Nat} {c : UInt8} (h : w.cell? ⟨g, 0, none⟩ = some (bv c)) : RdB w.heap.size w (some ⟨g, 0, none⟩) [c] :=
  ⟨by simp only [List.length_singleton]; unfold maxLen; omega, .inr ⟨g, 0, rfl, World.block_lt_of_cell? w _ h, fun j hj => by
    have : j = 0 := by simpa using hj
    subst this; simpa using h⟩⟩
theorem addr_add (b o j : Nat) : (⟨b, o, none⟩ : Addr).add j = ⟨b, o + j, none⟩ := by unfold Addr.add; split <;> simp_all

/-- A slice of one byte that has just been built. -/
theorem OwnB.built {B : Nat} {w : World} (c : UInt8) (hB : B ≤ w.heap.size) : OwnB B (w.alloc (.cells #[bv c] 5)) (.slice (some ⟨w.heap.size, 0, none⟩) 1 1) [c] :=
  ⟨rfl, .inr ⟨w.heap.size, 1, #[bv c], rfl, hB, heap_alloc_new w _, Nat.le_refl _, by unfold maxLen; omega, rfl, rfl⟩⟩
theorem OwnB.built' {B : Nat} {w : World} (c : UInt8) (g : Nat) (hg : g = w.heap.size) (hB : B ≤ w.heap.size) : OwnB B (w.alloc (.cells #[bv c] 5)) (.slice (some ⟨g, 0, none⟩) 1 1) [c] := hg ▸ OwnB.built c hB
theorem bv_ofNat (u : Nat) (h : u < 256) : bv (UInt8.ofNat u) = .int .u8 (u : Int) := by
  unfold bv; rw [show (UInt8.ofNat u).toNat = u from by simp; omega]
/-- Behind an append: the bytes, nothing else below B has turned. -/
theorem below_grown {B : Nat} {w w' : World} {v : Value} {l : List UInt8} (h : OwnB B w v l) (hg : w.grownBy w' v.ownBlock) (hB : B ≤ w.heap.size) : Below B w w' :=
  (Below.refl _ _).grown hg hB fun k hk => (World.ownsRow.lt h k hk).1

/-- What an append to v, or a call that appends to v, leaves: v's row and new blocks have turned, nothing else; the new value's row is v's or new. -/
structure Grew (w : World) (v : Value) (w' : World) (v' : Value) : Prop where
  grown : w.grownBy w' v.ownBlock
  lies : ∀ k, v'.ownBlock = some k → v.ownBlock = some k ∨ w.heap.size ≤ k

theorem Grew.refl (w : World) (v : Value) : Grew w v w v := ⟨⟨rfl, rfl, rfl, Nat.le_refl _, fun _ _ _ => rfl⟩, fun _ h => .inl h⟩
theorem Grew.trans {w w1 w2 : World} {v v1 v2 : Value} (h : Grew w v w1 v1) (k : Grew w1 v1 w2 v2) : Grew w v w2 v2 := by
  refine ⟨⟨k.grown.os.trans h.grown.os, k.grown.tape.trans h.grown.tape, k.grown.output.trans h.grown.output, Nat.le_trans h.grown.size k.grown.size, fun i hi hn => ?_⟩, fun j hj => ?_⟩
  · rw [k.grown.block i (Nat.lt_of_lt_of_le hi h.grown.size) (fun e => ?_), h.grown.block i hi hn]
    rcases h.lies i e.symm with h1 | h1
    · exact hn h1.symm
    · omega
  · rcases k.lies j hj with h1 | h1
    · exact h.lies j h1
    · exact .inr (Nat.le_trans h.grown.size h1)
theorem Grew.of_below {w w' : World} (v : Value) (h : Below w.heap.size w w') : Grew w v w' v := ⟨⟨h.os, h.tape, h.output, h.size, fun k hk _ => h.block k hk⟩, fun _ h => .inl h⟩
theorem Grew.alloc {w w1 : World} {v v1 : Value} (h : Grew w v w1 v1) (o : Obj) : Grew w v (w1.alloc o) v1 := h.trans (Grew.of_below v1 ((Below.refl _ _).alloc (Nat.le_refl _) o))
theorem Grew.drew {w w1 : World} {v v1 : Value} (h : Grew w v w1 v1) : Grew w v w1.drew v1 := h.trans (Grew.of_below v1 ((Below.refl _ _).drew))
theorem Grew.call {w w1 w2 : World} {v v1 : Value} (h : Grew w v w1 v1) (hb : Below w1.heap.size w1 w2) : Grew w v w2 v1 := h.trans (Grew.of_below v1 hb)
theorem Grew.below {B : Nat} {w w' : World} {v v' : Value} (h : Grew w v w' v') (hr : ∀ k, v.ownBlock = some k → B ≤ k) (hB : B ≤ w.heap.size) : Below B w w' := (Below.refl _ _).grown h.grown hB hr
theorem OwnB.base {B : Nat} {w : World} {v : Value} {l : List UInt8} (h : OwnB B w v l) : ∀ k, v.ownBlock = some k → B ≤ k := fun k hk => (World.ownsRow.lt h k hk).1
theorem Grew.cell {w w' : World} {v v' : Value} (h : Grew w v w' v') {p : Addr} (hp : p.block < w.heap.size) (hne : v.ownBlock ≠ some p.block) : w'.cell? p = w.cell? p :=
  World.cell?_of_block (w := w) (h.grown.block p.block hp (Ne.symm hne))
theorem Grew.ne {w w' : World} {v v' : Value} {b : Nat} (h : Grew w v w' v') (hn : v.ownBlock ≠ some b) (hb : b < w.heap.size) : v'.ownBlock ≠ some b := fun e => by
  rcases h.lies b e with h1 | h1
  · exact hn h1
  · omega
theorem le_alloc {B : Nat} {w : World} (h : B ≤ w.heap.size) (o : Obj) : B ≤ (w.alloc o).heap.size := by simp; omega
theorem le_alloc_drew {B : Nat} {w : World} (h : B ≤ w.heap.size) (o : Obj) : B ≤ (w.alloc o).drew.heap.size := by simp; omega
theorem lt_alloc (w : World) (o : Obj) : w.heap.size < (w.alloc o).heap.size := by simp
theorem lt_alloc_drew (w : World) (o : Obj) : w.heap.size < (w.alloc o).drew.heap.size := by simp
theorem Grew.size {w w' : World} {v v' : Value} (h : Grew w v w' v') : w.heap.size ≤ w'.heap.size := h.grown.size
/-- A row that was there before a block was made is not that block. -/
theorem OwnB.ne_new {B : Nat} {w : World} {v : Value} {l : List UInt8} (h : OwnB B w v l) : v.ownBlock ≠ some w.heap.size := fun e => by
  have := (World.ownsRow.lt h _ e).2; omega
/-- A second owned row, elsewhere, is kept. -/
theorem OwnB.grew {B : Nat} {w w' : World} {v v' x : Value} {l : List UInt8} (h : OwnB B w x l) (hg : Grew w v w' v') (hne : ∀ k, x.ownBlock = some k → v.ownBlock ≠ some k) : OwnB B w' x l :=
  World.ownsRow.kept h hg.grown (by
    cases hx : x.ownBlock with
    | none => exact .inl rfl
    | some k => exact .inr (fun e => hne k hx e.symm))

/-- The four cells of a block that was made last before, in a later world. -/
theorem box4 {w w' : World} {x0 x1 x2 x3 : Value} {T : TypeId} (h : Below (w.heap.size + 1) (w.alloc (.cells #[x0, x1, x2, x3] T)) w') :
    w'.cell? ⟨w.heap.size, 0, none⟩ = some x0 ∧ w'.cell? ⟨w.heap.size, 1, none⟩ = some x1 ∧ w'.cell? ⟨w.heap.size, 2, none⟩ = some x2 ∧ w'.cell? ⟨w.heap.size, 3, none⟩ = some x3 := by
  refine ⟨?_, ?_, ?_, ?_⟩ <;> (rw [h.cell (by simp)]; simp)
theorem box4_grew {w w' : World} {v v' x0 x1 x2 x3 : Value} {g : Nat} (hg : Grew w v w' v') (hlt : g < w.heap.size) (hne : v.ownBlock ≠ some g)
    (h : w.cell? ⟨g, 0, none⟩ = some x0 ∧ w.cell? ⟨g, 1, none⟩ = some x1 ∧ w.cell? ⟨g, 2, none⟩ = some x2 ∧ w.cell? ⟨g, 3, none⟩ = some x3) :
    w'.cell? ⟨g, 0, none⟩ = some x0 ∧ w'.cell? ⟨g, 1, none⟩ = some x1 ∧ w'.cell? ⟨g, 2, none⟩ = some x2 ∧ w'.cell? ⟨g, 3, none⟩ = some x3 :=
  ⟨(hg.cell hlt hne).trans h.1, (hg.cell hlt hne).trans h.2.1, (hg.cell hlt hne).trans h.2.2.1, (hg.cell hlt hne).trans h.2.2.2⟩

/-- append(own, xs...), xs a slice of bytes that is read: for a region that draws its order. -/
theorem wp_appB {o : Oper} {a : Act} {w : World} {K : Act → World → Prop} {Q : Exit → Act → World → Prop} (s x : Operand)
    (ho : o.op = .call { callee := .builtin .append, args := #[s, x], argTypes := #[66, 66] })
    (B : Nat) (v : Value) (l l' : List UInt8) (ad : Option Addr) (cap : Nat) (hs : a.eval s = v) (hown : OwnB B w v l) (hx : a.eval x = .slice ad l'.length cap) (hr : RdB w.heap.size w ad l') (hnil : ad = none → cap = 0)
    (hlen : l.length + l'.length ≤ 140737488355328) (hB : B ≤ w.heap.size)
    (h : ∀ v' w', OwnB B w' v' (l ++ l') → Grew w v w' v' → K (a.put o.dst v') w') : o.wp Tryz.prog a w K Q := by
  obtain ⟨i0, hi, hz0, hz1, hz2⟩ := info_parts byteInfo
  cases ad with
  | none =>
    have hl : l' = [] := by
      rcases hr.2 with h2 | ⟨b, o, ha, _⟩
      · exact h2
      · cases ha
    subst hl
    rw [hnil rfl] at hx
    have hrun := run_append_owned_none (P := Tryz.prog) (w := w) B 66 o.type 5 i0 1 Tryz.underlying66 hi v l.length (l.map bv) hown
    unfold Oper.wp
    simp only [List.length_nil] at hx
    simp [execOp, ho, resolve, invoke, builtin, hs, hx, hrun, Result.andThen]
    exact h _ _ (by simpa using hown) (Grew.refl _ _)
  | some ad =>
    have hnews : ∀ j u, (l'.map bv)[j]? = some u → w.cell? (ad.add j) = some u := by
      intro j u hu
      rw [List.getElem?_map] at hu
      rcases hr.2 with h2 | ⟨b, o, ha, _, hc⟩
      · subst h2; simp at hu
      · cases ha
        by_cases hj : j < l'.length
        · rw [List.getElem?_eq_getElem hj] at hu
          simp at hu
          rw [addr_add, hc j hj, hu]
        · rw [List.getElem?_eq_none (by omega)] at hu; cases hu
    have h1 : ∀ u ∈ l'.map bv, u.oneCell' = true := by
      intro u hu
      obtain ⟨c, _, rfl⟩ := List.mem_map.1 hu
      rfl
    obtain ⟨v', w', hrun, h2, h3, _, h5⟩ := run_append_own_at (P := Tryz.prog) (w := w) B 66 o.type 5 i0 (.int .u8 0) 1 1 Tryz.underlying66 hi hz0 hz1 hz2 rfl (by decide) v l.length (l.map bv) hown ad l'.length cap (l'.map bv) (by simp) hnews h1 (by unfold maxLen; omega) (by omega) hB
    unfold Oper.wp execOp
    simp only [ho, resolve, invoke, builtin, Sem.run_bind, Sem.run_pure, Result.andThen_ok, List.map_toArray, List.map_cons, List.map_nil, hs, hx, hrun]
    refine h v' w' (by simpa [OwnB] using h2) ⟨h3, fun k hk => ?_⟩
    rcases h5 with h5 | h5
    · exact .inl (h5 ▸ hk)
    · rw [h5] at hk; cases hk; exact .inr (Nat.le_refl _)

/-- The same, for the walk. -/
theorem wpList_appB {ops : Array Oper} {rest : List Oper} {o : Oper} {a : Act} {w : World} {Q : Exit → Act → World → Prop} (hgd : o.guard = none) (s x : Operand)
    (ho : o.op = .call { callee := .builtin .append, args := #[s, x], argTypes := #[66, 66] })
    (B : Nat) (v : Value) (l l' : List UInt8) (ad : Option Addr) (cap : Nat) (hs : a.eval s = v) (hown : OwnB B w v l) (hx : a.eval x = .slice ad l'.length cap) (hr : RdB w.heap.size w ad l') (hnil : ad = none → cap = 0)
    (hlen : l.length + l'.length ≤ 140737488355328) (hB : B ≤ w.heap.size)
    (h : ∀ v' w', OwnB B w' v' (l ++ l') → Grew w v w' v' → wpList Tryz.prog ops Q rest (a.put o.dst v') w') : wpList Tryz.prog ops Q (o :: rest) a w :=
  wpList_plain hgd fun _ hK => wp_appB s x ho B v l l' ad cap hs hown hx hr hnil hlen hB fun v' w' h2 h3 => hK _ _ (h v' w' h2 h3)

/-- append(own, c). -/
theorem wpList_app1 {ops : Array Oper} {rest : List Oper} {o : Oper} {a : Act} {w : World} {Q : Exit → Act → World → Prop} (hgd : o.guard = none) (s x : Operand)
    (ho : o.op = .call { callee := .builtin .append, args := #[s, x], argTypes := #[66, 66] })
    (B : Nat) (v : Value) (l : List UInt8) (c : UInt8) (g : Nat) (hs : a.eval s = v) (hown : OwnB B w v l) (hx : a.eval x = .slice (some ⟨g, 0, none⟩) 1 1) (hr : w.cell? ⟨g, 0, none⟩ = some (bv c))
    (hlen : l.length + 1 ≤ 140737488355328) (hB : B ≤ w.heap.size)
    (h : ∀ v' w', OwnB B w' v' (l ++ [c]) → Grew w v w' v' → wpList Tryz.prog ops Q rest (a.put o.dst v') w') : wpList Tryz.prog ops Q (o :: rest) a w :=
  wpList_appB hgd s x ho B v l [c] (some ⟨g, 0, none⟩) 1 hs hown hx ⟨by simp only [List.length_singleton]; unfold maxLen; omega, .inr ⟨g, 0, rfl, World.block_lt_of_cell? w _ hr, fun j hj => by
    have : j = 0 := by simpa using hj
    subst this; simpa using hr⟩⟩ (fun h => by cases h) (by rw [List.length_singleton]; exact hlen) hB h

theorem lies_string (B : Nat) (v v' : Value) (l : List UInt8) (t : ByteArray) (w w' : World) (ty1 ty2 ty : TypeId) (i0 : TypeInfo) (hi : Tryz.prog.info? 5 = some i0) (hz0 : i0.zero = some (.int .u8 0)) (hz1 : i0.size = 1) (hz2 : i0.bytes = 1)
    (hown : OwnB B w v l) (hlen : l.length + t.size ≤ 140737488355328) (hr : (Builtin.append_ #[66, 9] ty #[v, .string t]).run Tryz.prog w = .ok v' w') :
    ∀ k, v'.ownBlock = some k → v.ownBlock = some k ∨ w.heap.size ≤ k := by
  intro k hk
  rcases hown.2 with ⟨rfl, h0⟩ | ⟨g, cap, cur, rfl, hg, hh, h3, h4, h5, h6⟩
  · by_cases hs : t.size = 0
    · have hf := Lib.run_firstCells_string (P := Tryz.prog) w 1 t
      rw [hs] at hf
      simp [Builtin.append_, run_underlying Tryz.underlying66, run_underlying Tryz.underlying9, sizeOf, typeInfo, hi, hz1, Builtin.lenOf, hs, hf] at hr
      rw [← hr.1] at hk
      simp [Value.ownBlock] at hk
    · have h := run_append_nil_string (P := Tryz.prog) w 66 9 ty 5 i0 (.int .u8 0) Tryz.underlying66 Tryz.underlying9 hi hz0 t (by omega) (by omega) (by rw [hz2]; omega)
      rw [h] at hr
      injection hr with e1 e2
      rw [← e1] at hk
      simp [Value.ownBlock] at hk
      omega
  · by_cases hroom : l.length + t.size ≤ cap
    · have h := Lib.run_append_room_string (P := Tryz.prog) w 66 9 ty 5 i0 Tryz.underlying66 Tryz.underlying9 hi hz1 g l.length cap cur hh t hroom (by omega)
      rw [h] at hr
      injection hr with e1 e2
      rw [← e1] at hk
      exact .inl hk
    · have holds : ∀ j u, (l.map bv)[j]? = some u → w.cell? ((⟨g, 0, none⟩ : Addr).add j) = some u := World.ownsRow.cells hown (g := g) rfl
      have h := Lib.run_append_grow_string (P := Tryz.prog) w 66 9 ty 5 i0 (.int .u8 0) Tryz.underlying66 Tryz.underlying9 hi hz0 ⟨g, 0, none⟩ l.length cap (l.map bv) (by rw [hz1]; simp) holds t (by omega) (by omega) (by rw [hz2]; exact growslice_fits (by omega) (by omega))
      rw [h] at hr
      injection hr with e1 e2
      rw [← e1] at hk
      simp [Value.ownBlock] at hk
      omega

/-- append(own, s...), s a string. -/
theorem wp_appS {o : Oper} {a : Act} {w : World} {K : Act → World → Prop} {Q : Exit → Act → World → Prop} (s x : Operand)
    (ho : o.op = .call { callee := .builtin .append, args := #[s, x], argTypes := #[66, 9] })
    (B : Nat) (v : Value) (l : List UInt8) (t : ByteArray) (hs : a.eval s = v) (hown : OwnB B w v l) (hx : a.eval x = .string t)
    (hlen : l.length + t.size ≤ 140737488355328) (hB : B ≤ w.heap.size)
    (h : ∀ v' w', OwnB B w' v' (l ++ t.data.toList) → Grew w v w' v' → K (a.put o.dst v') w') : o.wp Tryz.prog a w K Q := by
  obtain ⟨i0, hi, hz0, hz1, hz2⟩ := info_parts byteInfo
  obtain ⟨v', w', hr, h2, h3, h4⟩ := Lib.run_append_own_string (P := Tryz.prog) (w := w) B 66 9 o.type 5 i0 Tryz.underlying66 Tryz.underlying9 hi hz0 hz1 hz2 v l.length (l.map bv) hown t (by unfold maxLen; omega) hlen hB
  unfold Oper.wp execOp
  simp only [ho, resolve, invoke, builtin, Sem.run_bind, Sem.run_pure, Result.andThen_ok, List.map_toArray, List.map_cons, List.map_nil, hs, hx, hr]
  refine h _ _ ?_ ⟨h3, lies_string B v v' l t w w' 66 9 o.type i0 hi hz0 hz1 hz2 hown hlen hr⟩
  have e : t.data.toList.length = t.size := Array.length_toList
  unfold OwnB
  rw [List.length_append, e, List.map_append]
  exact h2

/-- []byte(s). -/
theorem run_bytesS (s : ByteArray) (W : World) (hs : s.size ≤ maxLen) : ∃ cap W', (convert 9 66 (.string s)).run Tryz.prog W = .ok (.slice (some ⟨W.heap.size, 0, none⟩) s.size cap) W' ∧ RdB (W.heap.size + 1) W' (some ⟨W.heap.size, 0, none⟩) s.data.toList ∧ Below W.heap.size W W' ∧ W.heap.size + 1 ≤ W'.heap.size ∧ s.size ≤ cap ∧ cap ≤ maxLen := by
  refine ⟨_, _, run_bytes_of_string W _ _ _ s Tryz.underlying9 Tryz.underlying66 Tryz.underlying5, ⟨by have e : s.data.toList.length = s.size := Array.length_toList; omega, .inr ⟨W.heap.size, 0, rfl, by omega, fun j hj => ?_⟩⟩, ((Below.refl _ _).drew).alloc (by simp) _, by simp, grownCap_ge _ _ _ _, grownCap_le_maxLen _ _ _ _ hs⟩
  have e : s.data.toList.length = s.size := Array.length_toList
  have h := World.cell?_alloc_mark W.drew (bytesRow s (grownCap W s.size 0 5)) 5 ((bytesRow s (grownCap W s.size 0 5)).size, (bytesRow s (grownCap W s.size 0 5)).size + 1) j
  rw [Nat.zero_add]
  refine h.trans ?_
  unfold bytesRow
  rw [Array.getElem?_append_left (by simpa using hj), Array.getElem?_map, Array.getElem?_eq_getElem (by simpa using hj)]
  simp [bv]

/-- At a step of a region that draws its order. -/
theorem step_appB {ops : Array Oper} {o : Oper} {a : Act} {w : World} {K : Act → World → Prop} {Q : Exit → Act → World → Prop} {E : Prop} (hgd : o.guard = none) (s x : Operand)
    (ho : o.op = .call { callee := .builtin .append, args := #[s, x], argTypes := #[66, 66] })
    (B : Nat) (v : Value) (l l' : List UInt8) (ad : Option Addr) (cap : Nat) (hs : a.eval s = v) (hown : OwnB B w v l) (hx : a.eval x = .slice ad l'.length cap) (hr : RdB w.heap.size w ad l') (hnil : ad = none → cap = 0)
    (hlen : l.length + l'.length ≤ 140737488355328) (hB : B ≤ w.heap.size)
    (h : ∀ v' w', OwnB B w' v' (l ++ l') → Grew w v w' v' → K (a.put o.dst v') w') : if Region.wanted o (yielded ops a.tmps) = true then Oper.wp Tryz.prog o a w K Q else E := by
  have hw : Region.wanted o (yielded ops a.tmps) = true := by simp [Region.wanted, hgd]
  rw [if_pos hw]
  exact wp_appB s x ho B v l l' ad cap hs hown hx hr hnil hlen hB h
theorem step_appS {ops : Array Oper} {o : Oper} {a : Act} {w : World} {K : Act → World → Prop} {Q : Exit → Act → World → Prop} {E : Prop} (hgd : o.guard = none) (s x : Operand)
    (ho : o.op = .call { callee := .builtin .append, args := #[s, x], argTypes := #[66, 9] })
    (B : Nat) (v : Value) (l : List UInt8) (t : ByteArray) (hs : a.eval s = v) (hown : OwnB B w v l) (hx : a.eval x = .string t)
    (hlen : l.length + t.size ≤ 140737488355328) (hB : B ≤ w.heap.size)
    (h : ∀ v' w', OwnB B w' v' (l ++ t.data.toList) → Grew w v w' v' → K (a.put o.dst v') w') : if Region.wanted o (yielded ops a.tmps) = true then Oper.wp Tryz.prog o a w K Q else E := by
  have hw : Region.wanted o (yielded ops a.tmps) = true := by simp [Region.wanted, hgd]
  rw [if_pos hw]
  exact wp_appS s x ho B v l t hs hown hx hlen hB h
end Go.Proofs.YteigldfdaciopaaGreatDoor

namespace Go.Proofs.YteigldfdaciopaaGreatDoor
open Go.RowKit
set_option linter.unusedVariables false
set_option linter.unusedSimpArgs false

/-- string(b), b a slice of bytes that is read. -/
theorem run_strB {B : Nat} {w : World} {a : Option Addr} {l : List UInt8} (cap : Nat) (h : RdB B w a l) : (convert 66 9 (.slice a l.length cap)).run Tryz.prog w = .ok (.string ⟨l.toArray⟩) w := by
  rcases h.2 with rfl | ⟨b, o, rfl, hb, hc⟩
  · rw [List.length_nil, run_convert_bytes_string w _ _ 5 a 0 cap Tryz.underlying66 Tryz.underlying5 Tryz.underlying9]
    cases a with
    | none => simp [Conv.bytesToString]; rfl
    | some ad => simp [Conv.bytesToString, loadCells, loadCellsFrom]; rfl
  · exact run_convert_bytes_back w _ _ _ ⟨b, o, none⟩ cap l Tryz.underlying66 Tryz.underlying5 Tryz.underlying9 fun j hj => by rw [addr_add]; exact hc j hj
theorem bytes_toList (l : List UInt8) : (⟨l.toArray⟩ : ByteArray).toList = l := by
  rw [ByteArray.toList_eq]
/-- Two strings of bytes are equal if the bytes are. -/
theorem str_beq (l m : List UInt8) : ((⟨l.toArray⟩ : ByteArray).toList == (⟨m.toArray⟩ : ByteArray).toList) = (l == m) := by rw [bytes_toList, bytes_toList]
end Go.Proofs.YteigldfdaciopaaGreatDoor

namespace Go.Proofs.YteigldfdaciopaaGreatDoor
open Go.RowKit

def uadd (a b : Nat) : Nat := (a + b) % 4294967296
def uxor (a b : Nat) : Nat := (a ^^^ b) % 4294967296
def uand (a b : Nat) : Nat := (a &&& b) % 4294967296
def uor (a b : Nat) : Nat := (a ||| b) % 4294967296
def unot (a : Nat) : Nat := uxor 4294967295 a
def ushr (a n : Nat) : Nat := a / 2 ^ n
def ushl (a n : Nat) : Nat := a * 2 ^ n % 4294967296
def uror (a n : Nat) : Nat := uor (ushr a n) (ushl a (32 - n))

theorem wrap_u32n (n : Int) : IntKind.u32.wrap n = n % 4294967296 := by simp [IntKind.wrap, IntKind.bits, IntKind.signed]
theorem w_add (a b : Nat) : ((a : Int) + (b : Int)) % 4294967296 = ((uadd a b : Nat) : Int) := by unfold uadd; omega
theorem w_xor (a b : Nat) : bits .xor .u32 (a : Int) (b : Int) = ((uxor a b : Nat) : Int) := by
  show IntKind.u32.wrap ((BitVec.ofInt 32 (a : Int) ^^^ BitVec.ofInt 32 (b : Int)).toNat : Int) = _
  rw [BitVec.ofInt_natCast, BitVec.ofInt_natCast, BitVec.toNat_xor, BitVec.toNat_ofNat, BitVec.toNat_ofNat, ← Nat.xor_mod_two_pow, wrap_u32n]
  unfold uxor; omega
theorem w_and (a b : Nat) : bits .and .u32 (a : Int) (b : Int) = ((uand a b : Nat) : Int) := by
  show IntKind.u32.wrap ((BitVec.ofInt 32 (a : Int) &&& BitVec.ofInt 32 (b : Int)).toNat : Int) = _
  rw [BitVec.ofInt_natCast, BitVec.ofInt_natCast, BitVec.toNat_and, BitVec.toNat_ofNat, BitVec.toNat_ofNat, ← Nat.and_mod_two_pow, wrap_u32n]
  unfold uand; omega
theorem w_or (a b : Nat) : bits .or .u32 (a : Int) (b : Int) = ((uor a b : Nat) : Int) := by
  show IntKind.u32.wrap ((BitVec.ofInt 32 (a : Int) ||| BitVec.ofInt 32 (b : Int)).toNat : Int) = _
  rw [BitVec.ofInt_natCast, BitVec.ofInt_natCast, BitVec.toNat_or, BitVec.toNat_ofNat, BitVec.toNat_ofNat, ← Nat.or_mod_two_pow, wrap_u32n]
  unfold uor; omega
theorem w_not (a : Nat) : bits .xor .u32 IntKind.u32.max (a : Int) = ((unot a : Nat) : Int) := w_xor 4294967295 a
theorem w_add5 (a b c d e : Nat) : ((a : Int) + (b : Int) + (c : Int) + (d : Int) + (e : Int)) % 4294967296 = ((uadd (uadd (uadd (uadd a b) c) d) e : Nat) : Int) := by unfold uadd; omega
theorem w_shr (a n : Nat) : (a : Int) / 2 ^ n = ((ushr a n : Nat) : Int) := by unfold ushr; rw [Int.natCast_ediv, Int.natCast_pow]; rfl
theorem w_shl (a n : Nat) : (a : Int) * 2 ^ n % 4294967296 = ((ushl a n : Nat) : Int) := by unfold ushl; rw [Int.natCast_emod, Int.natCast_mul, Int.natCast_pow]; rfl
theorem uor_comm (a b : Nat) : uor a b = uor b a := by unfold uor; rw [Nat.or_comm]

theorem rot_and (n : Nat) (hn : 1 ≤ n) (hn2 : n ≤ 31) : bits .and .u64 (IntKind.u64.wrap (-(n : Int))) 31 = ((32 - n : Nat) : Int) := by
  have : n = 1 ∨ n = 2 ∨ n = 3 ∨ n = 4 ∨ n = 5 ∨ n = 6 ∨ n = 7 ∨ n = 8 ∨ n = 9 ∨ n = 10 ∨ n = 11 ∨ n = 12 ∨ n = 13 ∨ n = 14 ∨ n = 15 ∨ n = 16 ∨ n = 17 ∨ n = 18 ∨ n = 19 ∨ n = 20 ∨ n = 21 ∨ n = 22 ∨ n = 23 ∨ n = 24 ∨ n = 25 ∨ n = 26 ∨ n = 27 ∨ n = 28 ∨ n = 29 ∨ n = 30 ∨ n = 31 := by omega
  rcases this with rfl | rfl | rfl | rfl | rfl | rfl | rfl | rfl | rfl | rfl | rfl | rfl | rfl | rfl | rfl | rfl | rfl | rfl | rfl | rfl | rfl | rfl | rfl | rfl | rfl | rfl | rfl | rfl | rfl | rfl | rfl <;> decide +kernel

/-- Nothing but draws. -/
def Drew (w w' : World) : Prop := ∃ k, w' = w.drewN k
theorem Drew.refl (w : World) : Drew w w := ⟨0, rfl⟩
theorem Drew.mk (w : World) (k : Nat) : Drew w (w.drewN k) := ⟨k, rfl⟩
theorem ret_u32 {a b : Int} (h : a = b) : Ending.returned (.int .u32 a) = .returned (.int .u32 b) := by rw [h]

set_option maxHeartbeats 400000 in
theorem refRor (x n : Nat) (i : Int) (hi : i = (n : Int)) (hn : 1 ≤ n) (hn2 : n ≤ 31) (w : World) :
    Calls Tryz.prog 119 #[.int .u32 x, .int .i64 i] w fun e w' => e = .returned (.int .u32 (uror x n)) ∧ ∃ k, w' = w.drewN k := by
  subst hi
  go_enter Tryz.func119, Tryz.ntmps119
  go_wp2_with fail
  go_quiet (fail)
  go_wp2_with fail
  go_ret
  exact ⟨ret_u32 (by rw [w_shr, w_shl, w_or]; rfl), _, rfl⟩

set_option maxHeartbeats 400000 in
theorem rot32 (x n s : Nat) (i : Int) (hi : i = -(n : Int)) (HS : Hid (32 - s = n)) (HS' : Hid (32 - n = s)) (hs : 1 ≤ s) (hs2 : s ≤ 31) (w : World) :
    Calls Tryz.prog 145 #[.int .u32 x, .int .i64 i] w fun e w' => e = .returned (.int .u32 (uror x n)) ∧ w = w' := by
  subst hi
  have h0 : bits .and .u64 (IntKind.u64.wrap (-(n : Int))) 31 = (s : Int) := by rw [rot_and n (by have := HS.out; omega) (by have := HS.out; omega)]; have := HS.out; omega
  have h1 : (32 - (s : Int)).toNat = n := by have := HS.out; omega
  go_enter Tryz.func145, Tryz.ntmps145
  go_wp2_with fail
  go_ret
  exact ⟨ret_u32 (by rw [w_shr, w_shl, w_or, uor_comm]; unfold uror; rw [HS'.out]), rfl⟩

set_option maxHeartbeats 400000 in
theorem ror_any (x n : Nat) (i : Int) (hi : i = (n : Int)) (hn : 1 ≤ n) (hn2 : n ≤ 31) (w : World) :
    Calls Tryz.prog 143 #[.int .u32 x, .int .i64 i] w fun e w' => e = .returned (.int .u32 (uror x n)) ∧ w = w' := by
  subst hi
  go_enter Tryz.func143, Tryz.ntmps143
  go_wp2_with fail
  refine (rot32 x n (32 - n) _ rfl (Lib.hid (by omega)) (Lib.hid rfl) (by omega) (by omega) _).mono ?_
  rintro e w' ⟨rfl, rfl⟩
  go_wp2_with fail
  go_ret
  exact ⟨rfl, rfl⟩
end Go.Proofs.YteigldfdaciopaaGreatDoor

namespace Go.Proofs.YteigldfdaciopaaGreatDoor
open Go.RowKit

/-- Four bytes as a word. -/
def uword (c0 c1 c2 c3 : Nat) : Nat := uor (uor (uor (c0 * 16777216) (c1 * 65536)) (c2 * 256)) c3
theorem w_word (c0 c1 c2 c3 : Nat) : bits .or .u32 (bits .or .u32 (bits .or .u32 ((c0 : Int) * 16777216) ((c1 : Int) * 65536)) ((c2 : Int) * 256)) (c3 : Int) = ((uword c0 c1 c2 c3 : Nat) : Int) := by
  have e0 : (c0 : Int) * 16777216 = ((c0 * 16777216 : Nat) : Int) := by omega
  have e1 : (c1 : Int) * 65536 = ((c1 * 65536 : Nat) : Int) := by omega
  have e2 : (c2 : Int) * 256 = ((c2 * 256 : Nat) : Int) := by omega
  rw [e0, e1, e2, w_or, w_or, w_or]; rfl

set_option maxHeartbeats 400000 in
theorem refWord (b o n cap : Nat) (c0 c1 c2 c3 : Nat) (w : World) (hn : 4 ≤ n) (hn2 : n ≤ maxLen)
    (h0 : w.cell? ⟨b, o, none⟩ = some (.int .u8 c0)) (h1 : w.cell? ⟨b, o + 1, none⟩ = some (.int .u8 c1)) (h2 : w.cell? ⟨b, o + 2, none⟩ = some (.int .u8 c2)) (h3 : w.cell? ⟨b, o + 3, none⟩ = some (.int .u8 c3))
    (k0 : c0 ≤ 255) (k1 : c1 ≤ 255) (k2 : c2 ≤ 255) (k3 : c3 ≤ 255) :
    Calls Tryz.prog 118 #[.slice (some ⟨b, o, none⟩) n cap] w fun e w' => e = .returned (.int .u32 (uword c0 c1 c2 c3)) ∧ ∃ k, w' = w.drewN k := by
  unfold maxLen at hn2
  go_enter Tryz.func118, Tryz.ntmps118
  go_wp2_with fail
  go_quiet (fail)
  go_wp2_with fail
  go_ret
  exact ⟨ret_u32 (w_word _ _ _ _), _, rfl⟩

/-- An array of words. -/
def wv (l : List Nat) : Array Value := (l.map fun x : Nat => Value.int .u32 (x : Int)).toArray
/-- Block g is just the words l. -/
def WB (w : World) (g : Nat) (T : TypeId) (l : List Nat) : Prop := w.heap[g]? = some (.cells (wv l) T (0, 0))
theorem wv_size (l : List Nat) : (wv l).size = l.length := by simp [wv]
theorem wv_get (l : List Nat) (i : Nat) (h : i < l.length) : (wv l)[i]? = some (.int .u32 (l[i] : Nat)) := by simp [wv, h]
theorem wv_set (l : List Nat) (i x : Nat) : (wv l).setIfInBounds i (.int .u32 (x : Nat)) = wv (l.set i x) := by
  apply Array.ext'
  simp [wv, List.map_set]
theorem WB.lt {w : World} {g : Nat} {T : TypeId} {l : List Nat} (h : WB w g T l) : g < w.heap.size := by
  rcases Nat.lt_or_ge g w.heap.size with hlt | hge
  · exact hlt
  · unfold WB at h; rw [Array.getElem?_eq_none hge] at h; cases h
theorem WB.cell {w : World} {g : Nat} {T : TypeId} {l : List Nat} (h : WB w g T l) (i : Nat) (hi : i < l.length) : w.cell? ⟨g, i, none⟩ = some (.int .u32 (l[i] : Nat)) := by
  rw [cell_of_row w g i _ T (0, 0) h, wv_get l i hi]
theorem WB.frozen {w : World} {g : Nat} {T : TypeId} {l : List Nat} (h : WB w g T l) (i : Nat) : w.frozen? ⟨g, i, none⟩ = false := frozen_of_row w g i _ T h
theorem WB.drew {w : World} {g : Nat} {T : TypeId} {l : List Nat} (h : WB w g T l) : WB w.drew g T l := h
theorem WB.drewN {w : World} {g : Nat} {T : TypeId} {l : List Nat} (h : WB w g T l) (n : Nat) : WB (w.drewN n) g T l := h
theorem WB.set_ {w : World} {g : Nat} {T : TypeId} {l : List Nat} (h : WB w g T l) (i x : Nat) : WB (w.setCell ⟨g, i, none⟩ (.int .u32 (x : Nat))) g T (l.set i x) := by
  unfold WB; rw [heap_setCell_same w g i _ T _ h, wv_set]
theorem wv_one (l : List Nat) : (wv l).all (·.oneCell') = true := by
  rw [Array.all_eq_true_iff_forall_mem]; intro v hv
  obtain ⟨x, _, rfl⟩ := by simpa [wv] using hv
  rfl
theorem WB.setRow {w : World} {g : Nat} {T : TypeId} {l : List Nat} (h : WB w g T l) (l' : List Nat) : WB (w.setRow g (wv l')) g T l' := setRow_heap w g _ _ T _ h
theorem WB.below {B : Nat} {w w' : World} {g : Nat} {T : TypeId} {l : List Nat} (h : WB w g T l) (hb : Below B w w') (hg : g < B) : WB w' g T l := (hb.block g hg).trans h
theorem WB.new (w : World) (T : TypeId) (l : List Nat) : WB (w.alloc (.cells (wv l) T)) w.heap.size T l := heap_alloc_new w _
theorem WB.alloc {w : World} {g : Nat} {T : TypeId} {l : List Nat} (h : WB w g T l) (o : Obj) : WB (w.alloc o) g T l := (Below.heap_alloc w o g h.lt).trans h

/-- Word t of bytes. -/
def wordAt (l : List UInt8) (t : Nat) : Nat := uword (l.getD (4 * t) 0).toNat (l.getD (4 * t + 1) 0).toNat (l.getD (4 * t + 2) 0).toNat (l.getD (4 * t + 3) 0).toNat
/-- The words of a block of 64 bytes. -/
def wordsOf (l : List UInt8) : List Nat := (List.range 16).map (wordAt l)
/-- The first k of them, in an array of n. -/
def wordsTo (n : Nat) (l : List UInt8) (k : Nat) : List Nat := (List.range n).map fun t => if t < k then wordAt l t else 0
theorem wordsTo_len (n : Nat) (l : List UInt8) (k : Nat) : (wordsTo n l k).length = n := by simp [wordsTo]
theorem wordsTo_get (n : Nat) (l : List UInt8) (k i : Nat) (h : i < (wordsTo n l k).length) : (wordsTo n l k)[i] = if i < k then wordAt l i else 0 := by simp [wordsTo]
theorem wordsTo_set (n : Nat) (l : List UInt8) (k : Nat) : (wordsTo n l k).set k (wordAt l k) = wordsTo n l (k + 1) := by
  apply List.ext_getElem
  · simp [wordsTo]
  · intro i h1 h2
    rw [List.getElem_set, wordsTo_get, wordsTo_get]
    by_cases e : k = i
    · subst e; rw [if_pos rfl, if_pos (by omega)]
    · rw [if_neg e]
      by_cases h : i < k
      · rw [if_pos h, if_pos (by omega)]
      · rw [if_neg h, if_neg (by omega)]
theorem wordsTo_full (l : List UInt8) : wordsTo 16 l 16 = wordsOf l := by
  unfold wordsTo wordsOf
  apply List.map_congr_left
  intro t ht
  rw [if_pos (by simpa using ht)]

/-- The byte's cell, as a number. -/
theorem byte_at {w w' : World} {b o : Nat} {l : List UInt8} (HC : Hid (∀ j (h : j < l.length), w.cell? ⟨b, o + j, none⟩ = some (bv l[j]))) {B : Nat} (hb : b < B) (hbl : Below B w w') (j : Nat) (hj : j < l.length) :
    w'.cell? ⟨b, o + j, none⟩ = some (.int .u8 ((l.getD j 0).toNat : Int)) := by
  rw [hbl.cell (p := ⟨b, o + j, none⟩) hb, HC.out j hj]
  simp [bv, hj]
theorem byte_le (l : List UInt8) (j : Nat) : (l.getD j 0).toNat ≤ 255 := by have := (l.getD j 0).toNat_lt; omega

set_option maxRecDepth 100000 in
set_option maxHeartbeats 800000 in
theorem words_any (b o n cap : Nat) (l : List UInt8) (w : World) (hn : 64 ≤ n) (hn2 : n ≤ maxLen) (hnc : n ≤ cap) (hb : b < w.heap.size) (hl : l.length = 64) (hc : ∀ j (h : j < l.length), w.cell? ⟨b, o + j, none⟩ = some (bv l[j])) :
    Calls Tryz.prog 129 #[.slice (some ⟨b, o, none⟩) n cap] w fun e w' => e = .returned (.agg (wv (wordsOf l))) ∧ Below w.heap.size w w' := by
  unfold maxLen at hn2
  have HC := Lib.hid hc
  have HL := Lib.hid hl
  clear hc hl
  go_enter Tryz.func129, Tryz.ntmps129
  go_wp2_with fail
  go_loopw [5] (fun i wr => ∃ k : Nat, k ≤ 16 ∧ i = .int .i64 k ∧ WB wr w.heap.size 137 (wordsTo 16 l k) ∧ Below w.heap.size w wr) (fun i _ => 16 - (intOf i).toNat)
  case atStart => exact ⟨0, by omega, rfl, heap_alloc_new w _, (Below.refl _ _).alloc (Nat.le_refl _) _⟩
  case round =>
    obtain ⟨k, hk, rfl, hw, hbl⟩ := hrel
    by_cases hlt : k < 16
    · have a0 := byte_at HC hb hbl (4 * k) (by have := HL.out; omega)
      have a1 := byte_at HC hb hbl (4 * k + 1) (by have := HL.out; omega)
      have a2 := byte_at HC hb hbl (4 * k + 2) (by have := HL.out; omega)
      have a3 := byte_at HC hb hbl (4 * k + 3) (by have := HL.out; omega)
      rw [← Nat.add_assoc] at a1 a2 a3
      have b0 := byte_le l (4 * k)
      have b1 := byte_le l (4 * k + 1)
      have b2 := byte_le l (4 * k + 2)
      have b3 := byte_le l (4 * k + 3)
      have HX : Hid (wordAt l k = uword (l.getD (4 * k) 0).toNat (l.getD (4 * k + 1) 0).toNat (l.getD (4 * k + 2) 0).toNat (l.getD (4 * k + 3) 0).toNat) := Lib.hid rfl
      generalize (l.getD (4 * k) 0).toNat = x0 at *
      generalize (l.getD (4 * k + 1) 0).toNat = x1 at *
      generalize (l.getD (4 * k + 2) 0).toNat = x2 at *
      generalize (l.getD (4 * k + 3) 0).toNat = x3 at *
      have hlen := wordsTo_len 16 l k
      have hs := hw.cell k (by rw [hlen]; exact hlt)
      rw [wordsTo_get, if_neg (by omega)] at hs
      have hf := hw.frozen k
      have he : 4 * (k + 1) - 4 * k = 4 := by omega
      have HW := Lib.hid hw
      have HB := Lib.hid hbl
      clear hw hbl hlen
      go_wp2_with fail
      go_still_tail 24, (by kernel_rfl)
      change wpList _ _ _ _ _ wr.drew
      go_wp2_with fail
      go_roundw
      case rel =>
        refine ⟨k + 1, by omega, by go_num, ?_, (HB.out.drew).setCell (Nat.le_refl _) _⟩
        rw [w_word, ← HX.out, ← wordsTo_set]
        exact (HW.out.drew).set_ k _
      case measure => simp [intOf]; omega
    · have HW := Lib.hid hw
      have HB := Lib.hid hbl
      clear hw hbl
      obtain rfl : k = 16 := by omega
      have hsz : (Tryz.prog.info? 137).map (·.size) = some (wv (wordsTo 16 l 16)).size := by rw [wv_size, wordsTo_len]; kernel_rfl
      go_wp2_with (first | (refine wpList_load_row rfl 137 (.tmp 2) rfl w.heap.size rfl _ (wv (wordsTo 16 l 16)) (0, 0) _ HW.out Tryz.underlying137 rfl hsz ?_) | (refine wpList_store_row rfl 137 (.tmp 2) (.tmp 40) rfl w.heap.size (wv (wordsTo 16 l 16)) rfl rfl _ _ HW.out hsz rfl (wv_one _) ?_))
      refine bodyPost_ret (v := .agg (wv (wordsOf l))) ?_ rfl ⟨rfl, below_setRow HB.out (Nat.le_refl _) _⟩
      rw [← wordsTo_full]
      exact results_cell_row rfl _ _ w.heap.size 137 _ (0, 0) _ rfl (WB.setRow HW.out _) Tryz.underlying137 rfl hsz
end Go.Proofs.YteigldfdaciopaaGreatDoor

namespace Go.Proofs.YteigldfdaciopaaGreatDoor
open Go.RowKit

/-- copy(row[off:..], src): the row behind it; nothing else has turned. -/
theorem wp_copyRow {P : Program} {w : World} {o : Oper} {a : Act} {K : Act → World → Prop} {Q : Exit → Act → World → Prop} (d s : Operand) (dT sT : TypeId)
    (ho : o.op = .call { callee := .builtin .copy, args := #[d, s], argTypes := #[dT, sT] }) (elem : TypeId) (hu : P.underlying dT = some (.slice elem)) (hsz : (P.info? elem).map (·.size) = some 1)
    (dp sp : Option Addr) (dLen dCap sLen sCap : Nat) (hd : a.eval d = .slice dp dLen dCap) (hs : a.eval s = .slice sp sLen sCap)
    (g off : Nat) (cur : Array Value) (t : TypeId) (hg : w.heap[g]? = some (.cells cur t (0, 0))) (cs : List Value) (hn : cs.length = Nat.min sLen dLen)
    (hpos : 0 < cs.length → dp = some ⟨g, off, none⟩ ∧ ∃ ad, sp = some ad ∧ ∀ j v, cs[j]? = some v → w.cell? (ad.add j) = some v)
    (hfit : off + cs.length ≤ cur.size) (h1 : ∀ v ∈ cs, v.oneCell' = true)
    (h : ∀ w', w'.heap[g]? = some (.cells (splice cur.toList off cs).toArray t (0, 0)) → w.grownBy w' (some g) → K (a.put o.dst (goInt cs.length)) w') : o.wp P a w K Q := by
  by_cases h0 : cs.length = 0
  · obtain rfl : cs = [] := List.eq_nil_of_length_eq_zero h0
    have hrun := run_copy_none (P := P) w dT sT o.type elem dp sp dLen dCap sLen sCap hu hsz (by simpa using hn.symm)
    unfold Oper.wp
    simp [execOp, ho, resolve, invoke, builtin, hd, hs, hrun, Result.andThen]
    exact h w (by simpa [splice] using hg) ⟨rfl, rfl, rfl, Nat.le_refl _, fun _ _ _ => rfl⟩
  · obtain ⟨rfl, ad, rfl, hsrc⟩ := hpos (by omega)
    have hrun := run_copy_row (P := P) w dT sT o.type elem g off dLen dCap ad sLen sCap cur t cs hu hsz hg hn hsrc hfit h1
    unfold Oper.wp
    simp [execOp, ho, resolve, invoke, builtin, hd, hs, hrun, Result.andThen]
    exact h _ (by simpa [splice] using setRow_heap w g _ _ t _ hg) ⟨rfl, rfl, rfl, by simp [World.setRow], fun k hk hn => setRow_other w g k _ (fun e => hn (by rw [e]))⟩
theorem wpList_copyRow {P : Program} {w : World} {ops : Array Oper} {rest : List Oper} {o : Oper} {a : Act} {Q : Exit → Act → World → Prop} (hgd : o.guard = none) (d s : Operand) (dT sT : TypeId)
    (ho : o.op = .call { callee := .builtin .copy, args := #[d, s], argTypes := #[dT, sT] }) (elem : TypeId) (hu : P.underlying dT = some (.slice elem)) (hsz : (P.info? elem).map (·.size) = some 1)
    (dp sp : Option Addr) (dLen dCap sLen sCap : Nat) (hd : a.eval d = .slice dp dLen dCap) (hs : a.eval s = .slice sp sLen sCap)
    (g off : Nat) (cur : Array Value) (t : TypeId) (hg : w.heap[g]? = some (.cells cur t (0, 0))) (cs : List Value) (hn : cs.length = Nat.min sLen dLen)
    (hpos : 0 < cs.length → dp = some ⟨g, off, none⟩ ∧ ∃ ad, sp = some ad ∧ ∀ j v, cs[j]? = some v → w.cell? (ad.add j) = some v)
    (hfit : off + cs.length ≤ cur.size) (h1 : ∀ v ∈ cs, v.oneCell' = true)
    (h : ∀ w', w'.heap[g]? = some (.cells (splice cur.toList off cs).toArray t (0, 0)) → w.grownBy w' (some g) → wpList P ops Q rest (a.put o.dst (goInt cs.length)) w') :
    wpList P ops Q (o :: rest) a w :=
  wpList_plain hgd fun _ hK => wp_copyRow d s dT sT ho elem hu hsz dp sp dLen dCap sLen sCap hd hs g off cur t hg cs hn hpos hfit h1 fun w' h2 h3 => hK _ _ (h w' h2 h3)

def sig0 (x : Nat) : Nat := uxor (uxor (uror x 7) (uror x 18)) (ushr x 3)
def sig1 (y : Nat) : Nat := uxor (uxor (uror y 17) (uror y 19)) (ushr y 10)
/-- The next word. -/
def wnext (a x b y : Nat) : Nat := uadd (uadd (uadd a (sig0 x)) b) (sig1 y)
/-- The array of 64 words, when n of those behind the block's have been calculated. -/
def schN (l : List Nat) : Nat → List Nat
  | 0 => l ++ List.replicate 48 0
  | n + 1 => (schN l n).set (n + 16) (wnext ((schN l n).getD n 0) ((schN l n).getD (n + 1) 0) ((schN l n).getD (n + 9) 0) ((schN l n).getD (n + 14) 0))
def sched (l : List Nat) : List Nat := schN l 48
theorem schN_len (l : List Nat) (hl : l.length = 16) : ∀ n, (schN l n).length = 64
  | 0 => by simp [schN, hl]
  | n + 1 => by simp only [schN, List.length_set]; exact schN_len l hl n
theorem schN_at (l : List Nat) (k t : Nat) (h : t = k + 16) : schN l (k + 1) = (schN l k).set t (wnext ((schN l k).getD (t - 16) 0) ((schN l k).getD (t - 15) 0) ((schN l k).getD (t - 7) 0) ((schN l k).getD (t - 2) 0)) := by
  subst h; simp only [schN]; rfl
theorem WB.cellD {w : World} {g : Nat} {T : TypeId} {l : List Nat} (h : WB w g T l) (i : Nat) (hi : i < l.length) : w.cell? ⟨g, i, none⟩ = some (.int .u32 (l.getD i 0 : Nat)) := by
  rw [h.cell i hi]; simp [hi]

theorem below_dN {B : Nat} {w w1 : World} (h : Below B w w1) (n : Nat) : Below B w (w1.drewN n) := h.trans ⟨rfl, rfl, rfl, Nat.le_refl _, fun _ _ => rfl⟩
theorem u_add (a b : Nat) : IntKind.u32.wrap ((a : Int) + (b : Int)) = ((uadd a b : Nat) : Int) := by rw [wrap_u32n, w_add]
theorem w_shr3 (a : Nat) : (a : Int) / 8 = ((ushr a 3 : Nat) : Int) := w_shr a 3
theorem w_shr10 (a : Nat) : (a : Int) / 1024 = ((ushr a 10 : Nat) : Int) := w_shr a 10
theorem ror_still (x n : Nat) (i : Int) (hi : i = (n : Int)) (hn : 1 ≤ n) (hn2 : n ≤ 31) (w : World) :
    Calls Tryz.prog 143 #[.int .u32 x, .int .i64 i] w fun e w' => e = .returned (.int .u32 (uror x n)) ∧ w' = w :=
  (ror_any x n i hi hn hn2 w).mono fun _ _ h => ⟨h.1, h.2.symm⟩
theorem zeros64 (w : World) (T : TypeId) : w.alloc (.cells #[.int .u32 0, .int .u32 0, .int .u32 0, .int .u32 0, .int .u32 0, .int .u32 0, .int .u32 0, .int .u32 0, .int .u32 0, .int .u32 0, .int .u32 0, .int .u32 0, .int .u32 0, .int .u32 0, .int .u32 0, .int .u32 0, .int .u32 0, .int .u32 0, .int .u32 0, .int .u32 0, .int .u32 0, .int .u32 0, .int .u32 0, .int .u32 0, .int .u32 0, .int .u32 0, .int .u32 0, .int .u32 0, .int .u32 0, .int .u32 0, .int .u32 0, .int .u32 0, .int .u32 0, .int .u32 0, .int .u32 0, .int .u32 0, .int .u32 0, .int .u32 0, .int .u32 0, .int .u32 0, .int .u32 0, .int .u32 0, .int .u32 0, .int .u32 0, .int .u32 0, .int .u32 0, .int .u32 0, .int .u32 0, .int .u32 0, .int .u32 0, .int .u32 0, .int .u32 0, .int .u32 0, .int .u32 0, .int .u32 0, .int .u32 0, .int .u32 0, .int .u32 0, .int .u32 0, .int .u32 0, .int .u32 0, .int .u32 0, .int .u32 0, .int .u32 0] T) = w.alloc (.cells (wv (List.replicate 64 0)) T) := rfl
theorem grown_below {B R : Nat} {w0 w w1 : World} (hb : Below B w0 w) (h : w.grownBy w1 (some R)) (hR : B ≤ R) (hs : B ≤ w.heap.size) : Below B w0 w1 :=
  hb.trans ((Below.refl _ _).grown h hs fun k hk => by injection hk with hk; omega)
theorem splice_wv (l : List Nat) (n : Nat) : splice (wv (List.replicate (l.length + n) 0)).toList 0 (wv l).toList = (wv (l ++ List.replicate n 0)).toList := by
  simp [splice, wv]

set_option maxRecDepth 100000 in
set_option maxHeartbeats 800000 in
theorem schedule_any (l : List Nat) (hl : l.length = 16) (w : World) :
    Calls Tryz.prog 142 #[.agg (wv l)] w fun e w' => e = .returned (.agg (wv (sched l))) ∧ Below w.heap.size w w' := by
  have HL := Lib.hid hl
  clear hl
  go_enter Tryz.func142, Tryz.ntmps142
  go_wp2_with fail
  rw [zeros64]
  obtain ⟨Z, hZ⟩ : ∃ Z, Z = List.replicate 64 (0 : Nat) := ⟨_, rfl⟩
  rw [← hZ]
  obtain ⟨w2, hw2⟩ : ∃ w2, w2 = (w.alloc (.cells (wv l) 137)).alloc (.cells (wv Z) 127) := ⟨_, rfl⟩
  have hA : WB w2 w.heap.size 137 l := hw2 ▸ (WB.new w _ l).alloc _
  have hB : WB w2 (w.heap.size + 1) 127 Z := by have := WB.new (w.alloc (.cells (wv l) 137)) 127 Z; simpa [hw2] using this
  have hbl : Below w.heap.size w w2 := hw2 ▸ ((Below.refl _ _).alloc (Nat.le_refl _) _).alloc (by simp) _
  have hz : w.heap.size + 1 < w2.heap.size := by rw [hw2]; simp
  rw [← hw2]
  have HA := Lib.hid hA
  have HB := Lib.hid hB
  have HBL := Lib.hid hbl
  have HZ := Lib.hid hZ
  clear hw2 hA hB hbl hZ
  have hsz1 : (Tryz.prog.info? 109).map (·.size) = some 1 := by kernel_rfl
  go_still_tail 2, (by kernel_rfl)
  change wpList _ _ _ _ _ w2.drew
  go_wp2_with (refine wpList_copyRow rfl (.tmp 6) (.tmp 7) 147 147 rfl 109 Tryz.underlying147 hsz1 (some ⟨w.heap.size + 1, 0, none⟩) (some ⟨w.heap.size, 0, none⟩) 64 64 16 16 rfl rfl (w.heap.size + 1) 0 (wv Z) 127 HB.out (wv l).toList ?c1 ?c2 ?c3 ?c4 ?c5)
  case c1 => simp [wv, HL.out]
  case c2 =>
    intro _ j v hv
    rw [cell_of_row _ _ _ _ _ _ HA.out]
    exact hv
  case c3 => rw [HZ.out]; simp [wv, HL.out]
  case c4 => intro v hv; exact (Array.all_eq_true_iff_forall_mem.1 (wv_one l)) v (by simpa using hv)
  intro w3 h3 hg3
  have HB3 : Hid (WB w3 (w.heap.size + 1) 127 (schN l 0)) := by
    have e := splice_wv l 48
    rw [HL.out] at e
    show _ = _
    rw [h3, HZ.out, e]; rfl
  have HBL3 := Lib.hid (grown_below (HBL.out.drew) hg3 (Nat.le_succ _) (by show w.heap.size ≤ w2.heap.size; omega))
  clear h3 hg3
  go_wp2_with fail
  go_loopw [3] (fun i wr => ∃ k : Nat, k ≤ 48 ∧ i = .int .i64 ((k + 16 : Nat) : Int) ∧ WB wr (w.heap.size + 1) 127 (schN l k) ∧ Below w.heap.size w wr) (fun i _ => 64 - (intOf i).toNat)
  case atStart => exact ⟨0, by omega, rfl, HB3.out, HBL3.out⟩
  case round =>
    obtain ⟨k, hk, rfl, hw, hb⟩ := hrel
    have hlen := schN_len l HL.out k
    have HX := Lib.hid (schN_at l k (k + 16) rfl)
    by_cases hlt : k < 48
    · obtain ⟨t, ht⟩ : ∃ t, t = k + 16 := ⟨_, rfl⟩
      have c16 := hw.cellD (t - 16) (by omega)
      have c15 := hw.cellD (t - 15) (by omega)
      have c7 := hw.cellD (t - 7) (by omega)
      have c2 := hw.cellD (t - 2) (by omega)
      have ct := hw.cellD t (by omega)
      have cf := hw.frozen t
      rw [← ht] at HX ⊢
      generalize (schN l k).getD (t - 16) 0 = x16 at *
      generalize (schN l k).getD (t - 15) 0 = x15 at *
      generalize (schN l k).getD (t - 7) 0 = x7 at *
      generalize (schN l k).getD (t - 2) 0 = x2 at *
      generalize (schN l k).getD t 0 = xt at *
      have h16 : 16 ≤ t := by omega
      have h64 : t < 64 := by omega
      have HK := Lib.hid ht
      have HW := Lib.hid hw
      have HB' := Lib.hid hb
      clear hw hb hk hlt ht hlen
      go_wp2_with fail
      go_quiet (fail)
      go_wp2_with fail
      have d16 : (wr.drewN nq).cell? ⟨w.heap.size + 1, t - 16, none⟩ = some (.int .u32 (x16 : Int)) := c16
      have d7 : (wr.drewN nq).cell? ⟨w.heap.size + 1, t - 7, none⟩ = some (.int .u32 (x7 : Int)) := c7
      have dt : (wr.drewN nq).cell? ⟨w.heap.size + 1, t, none⟩ = some (.int .u32 (xt : Int)) := ct
      have df : (wr.drewN nq).frozen? ⟨w.heap.size + 1, t, none⟩ = false := cf
      have HW2 := Lib.hid (HW.out.drewN nq)
      have HB2 := Lib.hid (below_dN HB'.out nq)
      clear c16 c15 c7 c2 ct cf HW HB'
      generalize wr.drewN nq = wq at *
      have s16 : IntKind.i64.wrap ((t : Int) - 16) = (t : Int) - 16 := IntWalk.i64_in _ (by omega)
      have s7 : IntKind.i64.wrap ((t : Int) - 7) = (t : Int) - 7 := IntWalk.i64_in _ (by omega)
      have z16 : (0 : Int) ≤ (t : Int) - 16 := by omega
      have z7 : (0 : Int) ≤ (t : Int) - 7 := by omega
      have i16 : (16 : Int) ≤ (t : Int) := by omega
      have i7 : (7 : Int) ≤ (t : Int) := by omega
      have y16 : (t : Int) - 16 < 64 := by omega
      have y7 : (t : Int) - 7 < 64 := by omega
      have n16 : ((t : Int) - 16).toNat = t - 16 := by omega
      have n7 : ((t : Int) - 7).toNat = t - 7 := by omega
      have u1 := u_add
      have u2 := w_xor
      have u3 := w_shr3 x15
      have u4 := w_shr10 x2
      refine wp_region_still_tail 29 (by kernel_rfl) (by kernel_rfl) ?_
      simp only [List.take_succ_cons, List.take_zero, List.drop_succ_cons, List.drop_zero]
      iterate 6 still_step
      still_call (ror_still _ 7 _ rfl (by decide) (by decide) _)
      still_step
      still_call (ror_still _ 18 _ rfl (by decide) (by decide) _)
      iterate 11 still_step
      still_call (ror_still _ 17 _ rfl (by decide) (by decide) _)
      still_step
      still_call (ror_still _ 19 _ rfl (by decide) (by decide) _)
      iterate 6 still_step
      refine wpStill_nil ?_
      change wpList _ _ _ _ _ wq.drew
      go_wp2_with fail
      go_roundw
      case rel =>
        refine ⟨k + 1, by have := HK.out; omega, by rw [HK.out]; go_num, ?_, (HB2.out.drew).setCell (Nat.le_succ _) _⟩
        rw [HX.out]
        exact (HW2.out.drew).set_ t _
      case measure => simp [intOf]; omega
    · have HW := Lib.hid hw
      have HB := Lib.hid hb
      clear hw hb
      obtain rfl : k = 48 := by omega
      have hsz : (Tryz.prog.info? 127).map (·.size) = some (wv (schN l 48)).size := by rw [wv_size, hlen]; kernel_rfl
      go_wp2_with (first | (refine wpList_load_row rfl 127 (.tmp 2) rfl (w.heap.size + 1) rfl _ (wv (schN l 48)) (0, 0) _ HW.out Tryz.underlying127 rfl hsz ?_) | (refine wpList_store_row rfl 127 (.tmp 2) (.tmp 50) rfl (w.heap.size + 1) (wv (schN l 48)) rfl rfl _ _ HW.out hsz rfl (wv_one _) ?_))
      refine bodyPost_ret (v := .agg (wv (sched l))) ?_ rfl ⟨rfl, below_setRow HB.out (Nat.le_succ _) _⟩
      exact results_cell_row rfl _ _ (w.heap.size + 1) 127 _ (0, 0) _ rfl (WB.setRow HW.out _) Tryz.underlying127 rfl hsz
end Go.Proofs.YteigldfdaciopaaGreatDoor

namespace Go.Proofs.YteigldfdaciopaaGreatDoor
open Go.RowKit

theorem ror_2 (x : Nat) (w : World) : Calls Tryz.prog 143 #[.int .u32 x, .int .i64 2] w fun e w' => e = .returned (.int .u32 (uror x 2)) ∧ w' = w :=
  (ror_any x 2 2 rfl (by decide) (by decide) w).mono fun _ _ h => ⟨h.1, h.2.symm⟩
theorem ror_6 (x : Nat) (w : World) : Calls Tryz.prog 143 #[.int .u32 x, .int .i64 6] w fun e w' => e = .returned (.int .u32 (uror x 6)) ∧ w' = w :=
  (ror_any x 6 6 rfl (by decide) (by decide) w).mono fun _ _ h => ⟨h.1, h.2.symm⟩
theorem ror_11 (x : Nat) (w : World) : Calls Tryz.prog 143 #[.int .u32 x, .int .i64 11] w fun e w' => e = .returned (.int .u32 (uror x 11)) ∧ w' = w :=
  (ror_any x 11 11 rfl (by decide) (by decide) w).mono fun _ _ h => ⟨h.1, h.2.symm⟩
theorem ror_13 (x : Nat) (w : World) : Calls Tryz.prog 143 #[.int .u32 x, .int .i64 13] w fun e w' => e = .returned (.int .u32 (uror x 13)) ∧ w' = w :=
  (ror_any x 13 13 rfl (by decide) (by decide) w).mono fun _ _ h => ⟨h.1, h.2.symm⟩
theorem ror_22 (x : Nat) (w : World) : Calls Tryz.prog 143 #[.int .u32 x, .int .i64 22] w fun e w' => e = .returned (.int .u32 (uror x 22)) ∧ w' = w :=
  (ror_any x 22 22 rfl (by decide) (by decide) w).mono fun _ _ h => ⟨h.1, h.2.symm⟩
theorem ror_25 (x : Nat) (w : World) : Calls Tryz.prog 143 #[.int .u32 x, .int .i64 25] w fun e w' => e = .returned (.int .u32 (uror x 25)) ∧ w' = w :=
  (ror_any x 25 25 rfl (by decide) (by decide) w).mono fun _ _ h => ⟨h.1, h.2.symm⟩

theorem grown_set {R : Nat} {w w2 : World} (h : w.grownBy w2 (some R)) (i : Nat) (v : Value) : w.grownBy (w2.setCell ⟨R, i, none⟩ v) (some R) :=
  ⟨h.os, h.tape, h.output, by simpa using h.size, fun k hk hn => by rw [Below.heap_setCell _ _ _ _ (by intro e; subst e; exact hn rfl)]; exact h.block k hk hn⟩
theorem grown_drew {R : Nat} {w w2 : World} (h : w.grownBy w2 (some R)) : w.grownBy w2.drew (some R) := ⟨h.os, h.tape, h.output, h.size, h.block⟩
theorem grown_drewN {R : Nat} {w w2 : World} (h : w.grownBy w2 (some R)) (n : Nat) : w.grownBy (w2.drewN n) (some R) := ⟨h.os, h.tape, h.output, h.size, h.block⟩
theorem grown_trans {R : Nat} {w w1 w2 : World} (h : w.grownBy w1 (some R)) (k : w1.grownBy w2 (some R)) : w.grownBy w2 (some R) :=
  ⟨k.os.trans h.os, k.tape.trans h.tape, k.output.trans h.output, Nat.le_trans h.size k.size, fun i hi hn => (k.block i (Nat.lt_of_lt_of_le hi h.size) hn).trans (h.block i hi hn)⟩
theorem grown_call {R : Nat} {w w1 w2 : World} (h : w.grownBy w1 (some R)) (k : Below w1.heap.size w1 w2) : w.grownBy w2 (some R) :=
  ⟨k.os.trans h.os, k.tape.trans h.tape, k.output.trans h.output, Nat.le_trans h.size k.size, fun i hi hn => (k.block i (Nat.lt_of_lt_of_le hi h.size)).trans (h.block i hi hn)⟩

/-- The eight numbers of a state. -/
structure S8 where
  a : Nat
  b : Nat
  c : Nat
  d : Nat
  e : Nat
  f : Nat
  g : Nat
  h : Nat

def pOf (s : S8) (k x : Nat) : Nat := uadd (uadd (uadd (uadd s.h (uxor (uxor (uror s.e 6) (uror s.e 11)) (uror s.e 25))) (uxor (uand s.e s.f) (uand (unot s.e) s.g))) k) x
def qOf (s : S8) : Nat := uadd (uxor (uxor (uror s.a 2) (uror s.a 13)) (uror s.a 22)) (uxor (uxor (uand s.a s.b) (uand s.a s.c)) (uand s.b s.c))
def rnd (s : S8) (k x : Nat) : S8 := ⟨uadd (pOf s k x) (qOf s), s.a, s.b, s.c, uadd s.d (pOf s k x), s.e, s.f, s.g⟩
/-- The numbers K. -/
def kNums : List Nat := [0x428a2f98, 0x71374491, 0xb5c0fbcf, 0xe9b5dba5, 0x3956c25b, 0x59f111f1, 0x923f82a4, 0xab1c5ed5, 0xd807aa98, 0x12835b01, 0x243185be, 0x550c7dc3, 0x72be5d74, 0x80deb1fe, 0x9bdc06a7, 0xc19bf174, 0xe49b69c1, 0xefbe4786, 0x0fc19dc6, 0x240ca1cc, 0x2de92c6f, 0x4a7484aa, 0x5cb0a9dc, 0x76f988da, 0x983e5152, 0xa831c66d, 0xb00327c8, 0xbf597fc7, 0xc6e00bf3, 0xd5a79147, 0x06ca6351, 0x14292967, 0x27b70a85, 0x2e1b2138, 0x4d2c6dfc, 0x53380d13, 0x650a7354, 0x766a0abb, 0x81c2c92e, 0x92722c85, 0xa2bfe8a1, 0xa81a664b, 0xc24b8b70, 0xc76c51a3, 0xd192e819, 0xd6990624, 0xf40e3585, 0x106aa070, 0x19a4c116, 0x1e376c08, 0x2748774c, 0x34b0bcb5, 0x391c0cb3, 0x4ed8aa4a, 0x5b9cca4f, 0x682e6ff3, 0x748f82ee, 0x78a5636f, 0x84c87814, 0x8cc70208, 0x90befffa, 0xa4506ceb, 0xbef9a3f7, 0xc67178f2]
/-- The state in the beginning. -/
def hNums : List Nat := [0x6a09e667, 0xbb67ae85, 0x3c6ef372, 0xa54ff53a, 0x510e527f, 0x9b05688c, 0x1f83d9ab, 0x5be0cd19]
/-- The state after k rounds. -/
def rnds (ws : List Nat) (s : S8) : Nat → S8
  | 0 => s
  | k + 1 => rnd (rnds ws s k) (kNums.getD k 0) (ws.getD k 0)
def ofL (l : List Nat) : S8 := ⟨l.getD 0 0, l.getD 1 0, l.getD 2 0, l.getD 3 0, l.getD 4 0, l.getD 5 0, l.getD 6 0, l.getD 7 0⟩
def toL (s : S8) : List Nat := [s.a, s.b, s.c, s.d, s.e, s.f, s.g, s.h]
/-- Componentwise sums of the first k of eight numbers. -/
def addTo (x y : List Nat) (k : Nat) : List Nat := (List.range 8).map fun i => if i < k then uadd (x.getD i 0) (y.getD i 0) else x.getD i 0
theorem addTo_zero (x y : List Nat) (h : x.length = 8) : addTo x y 0 = x := by
  apply List.ext_getElem
  · simp [addTo, h]
  · intro i h1 h2
    simp [addTo, h2]
theorem addTo_len (x y : List Nat) (k : Nat) : (addTo x y k).length = 8 := by simp [addTo]
theorem addTo_get (x y : List Nat) (k i : Nat) (h : i < 8) : (addTo x y k).getD i 0 = if i < k then uadd (x.getD i 0) (y.getD i 0) else x.getD i 0 := by simp [addTo, h]
theorem addTo_set (x y : List Nat) (k : Nat) (h : k < 8) : (addTo x y k).set k (uadd (x.getD k 0) (y.getD k 0)) = addTo x y (k + 1) := by
  apply List.ext_getElem
  · simp [addTo]
  · intro i h1 h2
    rw [List.getElem_set]
    simp only [addTo, List.getElem_map, List.getElem_range]
    by_cases e : k = i
    · subst e; rw [if_pos rfl, if_pos (by omega)]
    · rw [if_neg e]
      by_cases h : i < k
      · rw [if_pos h, if_pos (by omega)]
      · rw [if_neg h, if_neg (by omega)]
theorem idx8_0 (a b c d e f g h : Nat) (w : World) : (Instr.index 110 (.agg #[.int .u32 a, .int .u32 b, .int .u32 c, .int .u32 d, .int .u32 e, .int .u32 f, .int .u32 g, .int .u32 h]) (.int .i64 (0 : Nat))).run Tryz.prog w = .ok (.int .u32 a) w := by kernel_rfl
theorem idx8_1 (a b c d e f g h : Nat) (w : World) : (Instr.index 110 (.agg #[.int .u32 a, .int .u32 b, .int .u32 c, .int .u32 d, .int .u32 e, .int .u32 f, .int .u32 g, .int .u32 h]) (.int .i64 (1 : Nat))).run Tryz.prog w = .ok (.int .u32 b) w := by kernel_rfl
theorem idx8_2 (a b c d e f g h : Nat) (w : World) : (Instr.index 110 (.agg #[.int .u32 a, .int .u32 b, .int .u32 c, .int .u32 d, .int .u32 e, .int .u32 f, .int .u32 g, .int .u32 h]) (.int .i64 (2 : Nat))).run Tryz.prog w = .ok (.int .u32 c) w := by kernel_rfl
theorem idx8_3 (a b c d e f g h : Nat) (w : World) : (Instr.index 110 (.agg #[.int .u32 a, .int .u32 b, .int .u32 c, .int .u32 d, .int .u32 e, .int .u32 f, .int .u32 g, .int .u32 h]) (.int .i64 (3 : Nat))).run Tryz.prog w = .ok (.int .u32 d) w := by kernel_rfl
theorem idx8_4 (a b c d e f g h : Nat) (w : World) : (Instr.index 110 (.agg #[.int .u32 a, .int .u32 b, .int .u32 c, .int .u32 d, .int .u32 e, .int .u32 f, .int .u32 g, .int .u32 h]) (.int .i64 (4 : Nat))).run Tryz.prog w = .ok (.int .u32 e) w := by kernel_rfl
theorem idx8_5 (a b c d e f g h : Nat) (w : World) : (Instr.index 110 (.agg #[.int .u32 a, .int .u32 b, .int .u32 c, .int .u32 d, .int .u32 e, .int .u32 f, .int .u32 g, .int .u32 h]) (.int .i64 (5 : Nat))).run Tryz.prog w = .ok (.int .u32 f) w := by kernel_rfl
theorem idx8_6 (a b c d e f g h : Nat) (w : World) : (Instr.index 110 (.agg #[.int .u32 a, .int .u32 b, .int .u32 c, .int .u32 d, .int .u32 e, .int .u32 f, .int .u32 g, .int .u32 h]) (.int .i64 (6 : Nat))).run Tryz.prog w = .ok (.int .u32 g) w := by kernel_rfl
theorem idx8_7 (a b c d e f g h : Nat) (w : World) : (Instr.index 110 (.agg #[.int .u32 a, .int .u32 b, .int .u32 c, .int .u32 d, .int .u32 e, .int .u32 f, .int .u32 g, .int .u32 h]) (.int .i64 (7 : Nat))).run Tryz.prog w = .ok (.int .u32 h) w := by kernel_rfl
theorem idx8 (s : S8) (j : Nat) (hj : j < 8) (w : World) : (Instr.index 110 (.agg #[.int .u32 s.a, .int .u32 s.b, .int .u32 s.c, .int .u32 s.d, .int .u32 s.e, .int .u32 s.f, .int .u32 s.g, .int .u32 s.h]) (.int .i64 j)).run Tryz.prog w = .ok (.int .u32 ((toL s).getD j 0 : Nat)) w := by
  have : j = 0 ∨ j = 1 ∨ j = 2 ∨ j = 3 ∨ j = 4 ∨ j = 5 ∨ j = 6 ∨ j = 7 := by omega
  rcases this with rfl | rfl | rfl | rfl | rfl | rfl | rfl | rfl
  · exact idx8_0 _ _ _ _ _ _ _ _ w
  · exact idx8_1 _ _ _ _ _ _ _ _ w
  · exact idx8_2 _ _ _ _ _ _ _ _ w
  · exact idx8_3 _ _ _ _ _ _ _ _ w
  · exact idx8_4 _ _ _ _ _ _ _ _ w
  · exact idx8_5 _ _ _ _ _ _ _ _ w
  · exact idx8_6 _ _ _ _ _ _ _ _ w
  · exact idx8_7 _ _ _ _ _ _ _ _ w
/-- The state after a block. -/
def comp (st : List Nat) (blk : List Nat) : List Nat := addTo st (toL (rnds (sched blk) (ofL st) 64)) 8

/-- The tables of package digest, as the program's text lays them. -/
def Tab (w : World) : Prop := w.rangeAt 4 0 (wv kNums).toList ∧ w.rangeAt 3 0 (wv hNums).toList
theorem Tab.lt {w : World} (h : Tab w) : 5 ≤ w.heap.size := by
  have h1 := World.block_lt_of_cell? w _ (h.1 0 (.int .u32 (0x428a2f98 : Nat)) rfl)
  have h2 := World.block_lt_of_cell? w _ (h.2 0 (.int .u32 (0x6a09e667 : Nat)) rfl)
  have h3 : 4 < w.heap.size := h1
  have h4 : 3 < w.heap.size := h2
  omega
theorem Tab.of {w w' : World} (h : Tab w) (hb : ∀ k, k < 5 → w'.heap[k]? = w.heap[k]?) : Tab w' :=
  ⟨fun j v hv => (World.cell?_of_block (w := w) (hb 4 (by decide))).trans (h.1 j v hv), fun j v hv => (World.cell?_of_block (w := w) (hb 3 (by decide))).trans (h.2 j v hv)⟩
theorem Tab.below {B : Nat} {w w' : World} (h : Tab w) (hb : Below B w w') (hB : 5 ≤ B) : Tab w' := h.of fun k hk => hb.block k (by omega)
theorem Tab.grown {R : Nat} {w w' : World} (h : Tab w) (hg : w.grownBy w' (some R)) (hR : 5 ≤ R) : Tab w' := h.of fun k hk => hg.block k (by have := h.lt; omega) (fun e => by injection e with e; omega)
theorem Tab.drewN {w : World} (h : Tab w) (n : Nat) : Tab (w.drewN n) := h
theorem Tab.k {w : World} (h : Tab w) (j : Nat) (hj : j < 64) : w.cell? ⟨4, j, none⟩ = some (.int .u32 (kNums.getD j 0 : Nat)) := by
  have hl : kNums.length = 64 := by decide
  have h0 : j < kNums.length := by omega
  have := h.1 j (.int .u32 (kNums.getD j 0 : Nat)) (by simp [wv, h0])
  rwa [Nat.zero_add] at this

/-- A hasher at block R: its state, and the cells behind it. -/
def HR (w : World) (R : Nat) (st : List Nat) (rest : List Value) : Prop := st.length = 8 ∧ w.heap[R]? = some (.cells ((wv st).toList ++ rest).toArray 121 (0, 0))
theorem HR.cell {w : World} {R : Nat} {st : List Nat} {rest : List Value} (h : HR w R st rest) (i : Nat) (hi : i < 8) : w.cell? ⟨R, i, none⟩ = some (.int .u32 (st.getD i 0 : Nat)) := by
  have h0 : i < st.length := by have := h.1; omega
  rw [cell_of_row w R i _ _ _ h.2]
  simp [wv, List.getElem?_append, h0]
theorem HR.frozen {w : World} {R : Nat} {st : List Nat} {rest : List Value} (h : HR w R st rest) (i : Nat) : w.frozen? ⟨R, i, none⟩ = false := frozen_of_row w R i _ _ h.2
theorem HR.lt {w : World} {R : Nat} {st : List Nat} {rest : List Value} (h : HR w R st rest) : R < w.heap.size := (Array.getElem?_eq_some_iff.1 h.2).1
theorem HR.drewN {w : World} {R : Nat} {st : List Nat} {rest : List Value} (h : HR w R st rest) (n : Nat) : HR (w.drewN n) R st rest := h
theorem HR.below {B : Nat} {w w' : World} {R : Nat} {st : List Nat} {rest : List Value} (h : HR w R st rest) (hb : Below B w w') (hR : R < B) : HR w' R st rest := ⟨h.1, (hb.block R hR).trans h.2⟩
theorem HR.set_ {w : World} {R : Nat} {st : List Nat} {rest : List Value} (h : HR w R st rest) (i x : Nat) (hi : i < 8) : HR (w.setCell ⟨R, i, none⟩ (.int .u32 (x : Nat))) R (st.set i x) rest := by
  refine ⟨by rw [List.length_set]; exact h.1, ?_⟩
  rw [heap_setCell_same w R i _ _ _ h.2]
  have h0 : i < (wv st).toList.length := by rw [Array.length_toList, wv_size, h.1]; exact hi
  congr 2
  apply Array.ext'
  simp only [Array.toList_setIfInBounds, List.set_append, h0, if_true]
  congr 1
  rw [← wv_set]; simp

set_option maxRecDepth 100000 in
set_option maxHeartbeats 1600000 in
theorem absorb_any (R : Nat) (st : List Nat) (rest : List Value) (blk : List Nat) (w : World) (hT : Tab w) (hR : 5 ≤ R) (h : HR w R st rest) (hbl : blk.length = 16) :
    Calls Tryz.prog 128 #[.pointer (some ⟨R, 0, none⟩), .agg (wv blk)] w fun e w' => e = .returned (.tuple #[]) ∧ HR w' R (comp st blk) rest ∧ w.grownBy w' (some R) := by
  have HBL := Lib.hid hbl
  have hlt := h.lt
  clear hbl
  have hsz : (Tryz.prog.info? 137).map (·.size) = some (wv blk).size := by rw [wv_size, HBL.out]; kernel_rfl
  go_enter Tryz.func128, Tryz.ntmps128
  have hb0 : Below w.heap.size w (w.alloc (.cells (wv blk) 137)) := (Below.refl _ _).alloc (Nat.le_refl _) _
  go_wp2_with (refine wpList_load_row rfl 137 (.tmp 3) rfl w.heap.size rfl 137 (wv blk) (0, 0) _ (heap_alloc_new w _) Tryz.underlying137 rfl hsz ?_)
  refine (schedule_any blk HBL.out _).mono ?_
  rintro e w1 ⟨rfl, hb1⟩
  have hb01 := hb0.trans (hb1.mono (by simp))
  have hz1 : w.heap.size ≤ w1.heap.size := hb01.size
  have hWl : (sched blk).length = 64 := schN_len blk HBL.out 48
  have HC : Hid (comp st blk = addTo st (toL (rnds (sched blk) (ofL st) 64)) 8) := Lib.hid rfl
  generalize sched blk = W at *
  have hsz2 : (Tryz.prog.info? 127).map (·.size) = some (wv W).size := by rw [wv_size, hWl]; kernel_rfl
  have hold : Hid ((64 : Nat) = (wv W).size) := Lib.hid (by rw [wv_size, hWl])
  have HWL := Lib.hid hWl
  have HB1 := Lib.hid hb01
  clear hWl hb01 hb1 hb0
  go_wp2_with (refine wpList_store_row rfl 127 (.tmp 4) (.tmp 20) rfl w1.heap.size (wv W) rfl rfl 127 _ (heap_alloc_new w1 _) hsz2 hold.out (wv_one _) ?_)
  rw [World.setRow_alloc_new]
  clear hold hsz2 hsz
  obtain ⟨w2, hw2⟩ : ∃ w2, w2 = w1.alloc (.cells (wv W) 127) := ⟨_, rfl⟩
  rw [← hw2]
  have hW2 : WB w2 w1.heap.size 127 W := hw2 ▸ WB.new w1 _ W
  have hB2 : Below w.heap.size w w2 := hw2 ▸ HB1.out.alloc hz1 _
  have hz2 : w1.heap.size < w2.heap.size := hW2.lt
  have hR2 : HR w2 R st rest := h.below hB2 hlt
  have hT2 : Tab w2 := hT.below hB2 (by omega)
  have HW2 := Lib.hid hW2
  have HB2 := Lib.hid hB2
  have HR2 := Lib.hid hR2
  have HT2 := Lib.hid hT2
  clear hw2 hW2 hB2 hR2 hT2 h hT HB1
  have c0 := HR2.out.cell 0 (by decide)
  have c1 := HR2.out.cell 1 (by decide)
  have c2 := HR2.out.cell 2 (by decide)
  have c3 := HR2.out.cell 3 (by decide)
  have c4 := HR2.out.cell 4 (by decide)
  have c5 := HR2.out.cell 5 (by decide)
  have c6 := HR2.out.cell 6 (by decide)
  have c7 := HR2.out.cell 7 (by decide)
  have HS : Hid (rnds W (ofL st) 0 = ⟨st.getD 0 0, st.getD 1 0, st.getD 2 0, st.getD 3 0, st.getD 4 0, st.getD 5 0, st.getD 6 0, st.getD 7 0⟩) := Lib.hid rfl
  have HLS := Lib.hid HR2.out.1
  generalize st.getD 0 0 = x0 at *
  generalize st.getD 1 0 = x1 at *
  generalize st.getD 2 0 = x2 at *
  generalize st.getD 3 0 = x3 at *
  generalize st.getD 4 0 = x4 at *
  generalize st.getD 5 0 = x5 at *
  generalize st.getD 6 0 = x6 at *
  generalize st.getD 7 0 = x7 at *
  go_quiet (fail)
  clear c0 c1 c2 c3 c4 c5 c6 c7
  go_wp2_with fail
  go_loopw [6, 7, 8, 9, 10, 11, 12, 13, 56] (fun a b c d e f g h i wr => ∃ k : Nat, k ≤ 64 ∧ i = .int .i64 k ∧ ∃ s : S8, Hid (rnds W (ofL st) k = s) ∧ a = .int .u32 s.a ∧ b = .int .u32 s.b ∧ c = .int .u32 s.c ∧ d = .int .u32 s.d ∧ e = .int .u32 s.e ∧ f = .int .u32 s.f ∧ g = .int .u32 s.g ∧ h = .int .u32 s.h ∧ ∃ n, wr = w2.drewN n) (fun _ _ _ _ _ _ _ _ i _ => 64 - (intOf i).toNat)
  case atStart => exact ⟨0, by omega, rfl, _, HS, rfl, rfl, rfl, rfl, rfl, rfl, rfl, rfl, _, rfl⟩
  case round =>
    obtain ⟨k, hk, rfl, ⟨xa, xb, xc, xd, xe, xf, xg, xh⟩, HSK, rfl, rfl, rfl, rfl, rfl, rfl, rfl, rfl, hwr⟩ := hrel
    have HWR := Lib.hid hwr
    clear hwr
    by_cases hlt : k < 64
    · have ck : wr.cell? ⟨4, k, none⟩ = some (.int .u32 (kNums.getD k 0 : Nat)) := by obtain ⟨n, rfl⟩ := HWR.out; exact HT2.out.k k hlt
      have cw : wr.cell? ⟨w1.heap.size, k, none⟩ = some (.int .u32 (W.getD k 0 : Nat)) := by obtain ⟨n, rfl⟩ := HWR.out; exact HW2.out.cellD k (by rw [HWL.out]; exact hlt)
      have HX : Hid (rnds W (ofL st) (k + 1) = rnd ⟨xa, xb, xc, xd, xe, xf, xg, xh⟩ (kNums.getD k 0) (W.getD k 0)) := by show _ = _; rw [← HSK.out]; rfl
      generalize kNums.getD k 0 = xk at *
      generalize W.getD k 0 = xw at *
      go_wp2_with fail
      refine wp_region_quiet_lit (by kernel_rfl) (by kernel_rfl) ?_
      iterate 2 (go_big_quiet_step (fail))
      go_big_quiet_step ((go_at_call 143; exact Calls.quiet_of_same (ror_6 _ _)))
      go_big_quiet_step (fail)
      go_big_quiet_step ((go_at_call 143; exact Calls.quiet_of_same (ror_11 _ _)))
      iterate 2 (go_big_quiet_step (fail))
      go_big_quiet_step ((go_at_call 143; exact Calls.quiet_of_same (ror_25 _ _)))
      iterate 20 (go_big_quiet_step (fail))
      refine wpQuiet_nil ?_
      intro _ hw'
      obtain ⟨nq, hw''⟩ := hw'
      subst hw''
      go_wp2_with fail
      refine (ror_2 _ _).mono ?_
      rintro e w' ⟨rfl, rfl⟩
      go_wp2_with fail
      refine (ror_13 _ _).mono ?_
      rintro e w' ⟨rfl, rfl⟩
      go_wp2_with fail
      refine (ror_22 _ _).mono ?_
      rintro e w' ⟨rfl, rfl⟩
      go_wp2_with fail
      go_roundw
      case rel =>
        obtain ⟨n, rfl⟩ := HWR.out
        refine ⟨k + 1, by omega, by go_num, _, HX, ?_, rfl, rfl, rfl, ?_, rfl, rfl, rfl, n + nq, World.drewN_drewN _ _ _⟩
        · simp only [w_not, w_xor, w_and, w_add5, w_add]; rfl
        · simp only [w_not, w_xor, w_and, w_add5, w_add]; rfl
      case measure => simp [intOf]; omega
    · obtain rfl : k = 64 := by omega
      rw [HSK.out] at HC
      obtain ⟨L, hL⟩ : ∃ L, L = toL ⟨xa, xb, xc, xd, xe, xf, xg, xh⟩ := ⟨_, rfl⟩
      rw [← hL] at HC
      have HL := Lib.hid hL
      have HW' : Hid (HR wr R st rest ∧ w.grownBy wr (some R)) := by
        obtain ⟨n, rfl⟩ := HWR.out
        exact ⟨HR2.out.drewN n, HB2.out.os, HB2.out.tape, HB2.out.output, HB2.out.size, fun j hj _ => HB2.out.block j hj⟩
      clear hL HSK hlt hk HWR HS
      go_wp2_with fail
      go_loopw [128] (fun i w' => ∃ j : Nat, j ≤ 8 ∧ i = .int .i64 j ∧ HR w' R (addTo st L j) rest ∧ w.grownBy w' (some R)) (fun i _ => 8 - (intOf i).toNat)
      case atStart => exact ⟨0, by omega, rfl, by rw [addTo_zero _ _ HLS.out]; exact HW'.out.1, HW'.out.2⟩
      case round =>
        obtain ⟨j, hj, rfl, hr, hg⟩ := hrel
        by_cases hlt : j < 8
        · have hix := idx8 ⟨xa, xb, xc, xd, xe, xf, xg, xh⟩ j hlt
          rw [← HL.out] at hix
          have cj := hr.cell j hlt
          have cf := hr.frozen j
          rw [addTo_get _ _ _ _ hlt, if_neg (by omega)] at cj
          have HX := Lib.hid (addTo_set st L j hlt)
          generalize st.getD j 0 = yj at *
          generalize L.getD j 0 = lj at *
          have HRr := Lib.hid hr
          have HG := Lib.hid hg
          clear hr hg
          go_wp2_with fail
          go_still_tail 9, (by kernel_rfl)
          change wpList _ _ _ _ _ wr.drew
          go_wp2_with fail
          go_roundw
          case rel =>
            repeat apply Exists.intro
            refine ⟨⟨j + 1, by omega, ?_, ?_, ?_⟩, rfl⟩
            · go_num
            · rw [w_add, ← HX.out]; exact HRr.out.set_ j _ hlt
            · exact grown_drew (grown_set HG.out j _)
          case measure => simp [intOf]; omega
        · obtain rfl : j = 8 := by omega
          rw [← HC.out] at hr
          have HRr := Lib.hid hr
          have HG := Lib.hid hg
          clear hr hg
          go_wp2_with fail
          go_end0
          exact ⟨rfl, HRr.out, HG.out⟩
end Go.Proofs.YteigldfdaciopaaGreatDoor
