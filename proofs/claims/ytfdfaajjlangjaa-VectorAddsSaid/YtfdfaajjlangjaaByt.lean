/-
  Slices of bytes: what a world must hold of one that is read, of one that the call owns; appending to one.
-/
import Derived.Test.YtfdfaajjlangjaaV
import Derived.Lib.AppendStr
import Derived.Laws.AppendOwnNone
import Derived.Maps.AppendAt
import Derived.Laws.MakeOwn
import Derived.Laws.IdiomStrings
namespace Go.Proofs.Ytfdfaajjlangjaa
open Go.RowKit

/-- A byte as a value. -/
def bv (c : UInt8) : Value := .int .u8 (c.toNat : Int)

/-- The slice value v owns the bytes l, in blocks from B on. -/
def OwnB (B : Nat) (w : World) (v : Value) (l : List UInt8) : Prop := w.ownsRow B 5 1 v l.length (l.map bv)

/-- The slice .slice a l.length cap holds the bytes l, below block B. -/
def RdB (B : Nat) (w : World) (a : Option Addr) (l : List UInt8) : Prop :=
  l.length ≤ maxLen ∧ (l = [] ∨ ∃ b o, a = some ⟨b, o, none⟩ ∧ b < B ∧ ∀ j (h : j < l.length), w.cell? ⟨b, o + j, none⟩ = some (bv l[j]))

theorem byteInfo : (Try.prog.info? 5).map (fun i => (i.zero, i.size, i.bytes)) = some (some (.int .u8 0), 1, 1) := by kernel_rfl

theorem OwnB.made {B : Nat} {w : World} (n : Nat) (hn : n ≤ 140737488355328) (hB : B ≤ w.heap.size) : OwnB B (w.alloc (.cells (madeCells #[.int .u8 0] n) 5)) (.slice (some ⟨w.heap.size, 0, none⟩) 0 n) [] := by
  exact World.ownsRow_made w _ n hB (by unfold maxLen; omega) (by rw [size_madeCells, Nat.mul_one])
theorem OwnB.nil (B : Nat) (w : World) : OwnB B w (.slice none 0 0) [] := World.ownsRow_nil _ _ _ _
theorem OwnB.below {B : Nat} {w w' : World} {v : Value} {l : List UInt8} (h : OwnB B w v l) (hb : Below w.heap.size w w') : OwnB B w' v l := by
  refine ⟨h.1, ?_⟩
  rcases h.2 with h2 | ⟨g, cap, cur, hv, hg, hh, r⟩
  · exact .inl h2
  · exact .inr ⟨g, cap, cur, hv, hg, by rw [hb.block g (Array.getElem?_eq_some_iff.1 hh).1]; exact hh, r⟩
theorem OwnB.mono {B B' : Nat} {w : World} {v : Value} {l : List UInt8} (h : OwnB B w v l) (hB : B' ≤ B) : OwnB B' w v l := by
  refine ⟨h.1, ?_⟩
  rcases h.2 with h2 | ⟨g, cap, cur, hv, hg, r⟩
  · exact .inl h2
  · exact .inr ⟨g, cap, cur, hv, by omega, r⟩
theorem OwnB.alloc {B : Nat} {w : World} {v : Value} {l : List UInt8} (h : OwnB B w v l) (o : Obj) : OwnB B (w.alloc o) v l := World.ownsRow.alloc h o
theorem OwnB.drew {B : Nat} {w : World} {v : Value} {l : List UInt8} (h : OwnB B w v l) : OwnB B w.drew v l := h
theorem OwnB.drewN {B : Nat} {w : World} {v : Value} {l : List UInt8} (h : OwnB B w v l) (n : Nat) : OwnB B (w.drewN n) v l := h

/-- The form of an owned slice of bytes; each byte's cell. -/
theorem OwnB.form {B : Nat} {w : World} {v : Value} {l : List UInt8} (h : OwnB B w v l) : ∃ a cap, v = .slice a l.length cap ∧ ((a = none ∧ cap = 0 ∧ l = []) ∨ ∃ g, a = some ⟨g, 0, none⟩ ∧ B ≤ g ∧ g < w.heap.size) ∧ RdB w.heap.size w a l := by
  have hc := @World.ownsRow.cells w B _ 1 v l.length (l.map bv) h
  rcases h.2 with ⟨rfl, h0⟩ | ⟨g, cap, cur, rfl, hg, hh, h3, h4, r⟩
  · have : l = [] := List.eq_nil_of_length_eq_zero h0
    subst this
    exact ⟨none, 0, rfl, .inl ⟨rfl, rfl, rfl⟩, Nat.zero_le _, .inl rfl⟩
  · have hg2 := (Array.getElem?_eq_some_iff.1 hh).1
    refine ⟨some ⟨g, 0, none⟩, cap, rfl, .inr ⟨g, rfl, hg, hg2⟩, by omega, .inr ⟨g, 0, rfl, hg2, fun j hj => ?_⟩⟩
    have := hc (g := g) rfl j (bv l[j]) (by simp [hj])
    rw [← this]; congr 1; simp [Addr.add]

theorem OwnB.caps {B : Nat} {w : World} {a : Option Addr} {n cap : Nat} {l : List UInt8} (h : OwnB B w (.slice a n cap) l) : l.length ≤ cap ∧ cap ≤ maxLen := by
  rcases h.2 with ⟨h1, h2⟩ | ⟨g, cap', cur, h1, _, _, h2, h3, _⟩
  · injection h1 with h1 h3 h4; rw [h4, h2]; exact ⟨Nat.le_refl _, Nat.zero_le _⟩
  · injection h1 with h1 h4 h5; rw [h5]; exact ⟨h2, h3⟩
theorem RdB.below {B : Nat} {w w' : World} {a : Option Addr} {l : List UInt8} (h : RdB B w a l) (hb : Below B w w') : RdB B w' a l := by
  refine ⟨h.1, ?_⟩
  rcases h.2 with h2 | ⟨b, o, ha, hB, hc⟩
  · exact .inl h2
  · exact .inr ⟨b, o, ha, hB, fun j hj => (hb.cell (p := ⟨b, o + j, none⟩) hB).trans (hc j hj)⟩
theorem RdB.mono {B B' : Nat} {w : World} {a : Option Addr} {l : List UInt8} (h : RdB B w a l) (hB : B ≤ B') : RdB B' w a l := by
  refine ⟨h.1, ?_⟩
  rcases h.2 with h2 | ⟨b, o, ha, hb, hc⟩
  · exact .inl h2
  · exact .inr ⟨b, o, ha, by omega, hc⟩

theorem RdB.one {w : World} {g : Nat} {c : UInt8} (h : w.cell? ⟨g, 0, none⟩ = some (bv c)) : RdB w.heap.size w (some ⟨g, 0, none⟩) [c] :=
  ⟨by simp only [List.length_singleton]; unfold maxLen; omega, .inr ⟨g, 0, rfl, World.block_lt_of_cell? w _ h, fun j hj => by
    have : j = 0 := by simpa using hj
    subst this; simpa using h⟩⟩
theorem addr_add (b o j : Nat) : (⟨b, o, none⟩ : Addr).add j = ⟨b, o + j, none⟩ := by unfold Addr.add; split <;> simp_all

/-- A slice of one byte that has just been built. -/
theorem OwnB.built {B : Nat} {w : World} (c : UInt8) (hB : B ≤ w.heap.size) : OwnB B (w.alloc (.cells #[bv c] 5)) (.slice (some ⟨w.heap.size, 0, none⟩) 1 1) [c] :=
  ⟨rfl, .inr ⟨w.heap.size, 1, #[bv c], rfl, hB, heap_alloc_new w _, Nat.le_refl _, by unfold maxLen; omega, rfl, rfl⟩⟩
theorem OwnB.built' {B : Nat} {w : World} (c : UInt8) (g : Nat) (hg : g = w.heap.size) (hB : B ≤ w.heap.size) : OwnB B (w.alloc (.cells #[bv c] 5)) (.slice (some ⟨g, 0, none⟩) 1 1) [c] := hg ▸ OwnB.built c hB
theorem bv_ofNat (u : Nat) (h : u < 256) : bv (UInt8.ofNat u) = .int .u8 (u : Int) := by
  unfold bv; rw [show (UInt8.ofNat u).toNat = u from by simp; omega]
/-- Behind an append: the bytes, nothing else below B has turned. -/
theorem below_grown {B : Nat} {w w' : World} {v : Value} {l : List UInt8} (h : OwnB B w v l) (hg : w.grownBy w' v.ownBlock) (hB : B ≤ w.heap.size) : Below B w w' :=
  (Below.refl _ _).grown hg hB fun k hk => (World.ownsRow.lt h k hk).1

/-- What an append to v, or a call that appends to v, leaves: v's row and new blocks have turned, nothing else; the new value's row is v's or new. -/
structure Grew (w : World) (v : Value) (w' : World) (v' : Value) : Prop where
  grown : w.grownBy w' v.ownBlock
  lies : ∀ k, v'.ownBlock = some k → v.ownBlock = some k ∨ w.heap.size ≤ k

theorem Grew.refl (w : World) (v : Value) : Grew w v w v := ⟨⟨rfl, rfl, rfl, Nat.le_refl _, fun _ _ _ => rfl⟩, fun _ h => .inl h⟩
theorem Grew.trans {w w1 w2 : World} {v v1 v2 : Value} (h : Grew w v w1 v1) (k : Grew w1 v1 w2 v2) : Grew w v w2 v2 := by
  refine ⟨⟨k.grown.os.trans h.grown.os, k.grown.tape.trans h.grown.tape, k.grown.output.trans h.grown.output, Nat.le_trans h.grown.size k.grown.size, fun i hi hn => ?_⟩, fun j hj => ?_⟩
  · rw [k.grown.block i (Nat.lt_of_lt_of_le hi h.grown.size) (fun e => ?_), h.grown.block i hi hn]
    rcases h.lies i e.symm with h1 | h1
    · exact hn h1.symm
    · omega
  · rcases k.lies j hj with h1 | h1
    · exact h.lies j h1
    · exact .inr (Nat.le_trans h.grown.size h1)
theorem Grew.of_below {w w' : World} (v : Value) (h : Below w.heap.size w w') : Grew w v w' v := ⟨⟨h.os, h.tape, h.output, h.size, fun k hk _ => h.block k hk⟩, fun _ h => .inl h⟩
theorem Grew.alloc {w w1 : World} {v v1 : Value} (h : Grew w v w1 v1) (o : Obj) : Grew w v (w1.alloc o) v1 := h.trans (Grew.of_below v1 ((Below.refl _ _).alloc (Nat.le_refl _) o))
theorem Grew.drew {w w1 : World} {v v1 : Value} (h : Grew w v w1 v1) : Grew w v w1.drew v1 := h.trans (Grew.of_below v1 ((Below.refl _ _).drew))
theorem Grew.call {w w1 w2 : World} {v v1 : Value} (h : Grew w v w1 v1) (hb : Below w1.heap.size w1 w2) : Grew w v w2 v1 := h.trans (Grew.of_below v1 hb)
theorem Grew.below {B : Nat} {w w' : World} {v v' : Value} (h : Grew w v w' v') (hr : ∀ k, v.ownBlock = some k → B ≤ k) (hB : B ≤ w.heap.size) : Below B w w' := (Below.refl _ _).grown h.grown hB hr
theorem OwnB.base {B : Nat} {w : World} {v : Value} {l : List UInt8} (h : OwnB B w v l) : ∀ k, v.ownBlock = some k → B ≤ k := fun k hk => (World.ownsRow.lt h k hk).1
theorem Grew.cell {w w' : World} {v v' : Value} (h : Grew w v w' v') {p : Addr} (hp : p.block < w.heap.size) (hne : v.ownBlock ≠ some p.block) : w'.cell? p = w.cell? p :=
  World.cell?_of_block (w := w) (h.grown.block p.block hp (Ne.symm hne))
theorem Grew.ne {w w' : World} {v v' : Value} {b : Nat} (h : Grew w v w' v') (hn : v.ownBlock ≠ some b) (hb : b < w.heap.size) : v'.ownBlock ≠ some b := fun e => by
  rcases h.lies b e with h1 | h1
  · exact hn h1
  · omega
theorem le_alloc {B : Nat} {w : World} (h : B ≤ w.heap.size) (o : Obj) : B ≤ (w.alloc o).heap.size := by simp; omega
theorem le_alloc_drew {B : Nat} {w : World} (h : B ≤ w.heap.size) (o : Obj) : B ≤ (w.alloc o).drew.heap.size := by simp; omega
theorem lt_alloc (w : World) (o : Obj) : w.heap.size < (w.alloc o).heap.size := by simp
theorem lt_alloc_drew (w : World) (o : Obj) : w.heap.size < (w.alloc o).drew.heap.size := by simp
theorem Grew.size {w w' : World} {v v' : Value} (h : Grew w v w' v') : w.heap.size ≤ w'.heap.size := h.grown.size
/-- A row that was there before a block was made is not that block. -/
theorem OwnB.ne_new {B : Nat} {w : World} {v : Value} {l : List UInt8} (h : OwnB B w v l) : v.ownBlock ≠ some w.heap.size := fun e => by
  have := (World.ownsRow.lt h _ e).2; omega
/-- A second owned row, elsewhere, is kept. -/
theorem OwnB.grew {B : Nat} {w w' : World} {v v' x : Value} {l : List UInt8} (h : OwnB B w x l) (hg : Grew w v w' v') (hne : ∀ k, x.ownBlock = some k → v.ownBlock ≠ some k) : OwnB B w' x l :=
  World.ownsRow.kept h hg.grown (by
    cases hx : x.ownBlock with
    | none => exact .inl rfl
    | some k => exact .inr (fun e => hne k hx e.symm))

/-- The four cells of a block that was made last before, in a later world. -/
theorem box4 {w w' : World} {x0 x1 x2 x3 : Value} {T : TypeId} (h : Below (w.heap.size + 1) (w.alloc (.cells #[x0, x1, x2, x3] T)) w') :
    w'.cell? ⟨w.heap.size, 0, none⟩ = some x0 ∧ w'.cell? ⟨w.heap.size, 1, none⟩ = some x1 ∧ w'.cell? ⟨w.heap.size, 2, none⟩ = some x2 ∧ w'.cell? ⟨w.heap.size, 3, none⟩ = some x3 := by
  refine ⟨?_, ?_, ?_, ?_⟩ <;> (rw [h.cell (by simp)]; simp)
theorem box4_grew {w w' : World} {v v' x0 x1 x2 x3 : Value} {g : Nat} (hg : Grew w v w' v') (hlt : g < w.heap.size) (hne : v.ownBlock ≠ some g)
    (h : w.cell? ⟨g, 0, none⟩ = some x0 ∧ w.cell? ⟨g, 1, none⟩ = some x1 ∧ w.cell? ⟨g, 2, none⟩ = some x2 ∧ w.cell? ⟨g, 3, none⟩ = some x3) :
    w'.cell? ⟨g, 0, none⟩ = some x0 ∧ w'.cell? ⟨g, 1, none⟩ = some x1 ∧ w'.cell? ⟨g, 2, none⟩ = some x2 ∧ w'.cell? ⟨g, 3, none⟩ = some x3 :=
  ⟨(hg.cell hlt hne).trans h.1, (hg.cell hlt hne).trans h.2.1, (hg.cell hlt hne).trans h.2.2.1, (hg.cell hlt hne).trans h.2.2.2⟩

end Go.Proofs.Ytfdfaajjlangjaa
