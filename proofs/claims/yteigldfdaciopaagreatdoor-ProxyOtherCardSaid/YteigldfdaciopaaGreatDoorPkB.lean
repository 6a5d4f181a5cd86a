/-
  Slices of bytes: made with zeros, stored to, cut, read cell by cell.
  The hasher of package digest: write, end, newHasher.
  The hasher of package digest: newHasher and end; SHA-256 as a plain function of bytes.
  Sum and tagged of package digest.
  tagged and Tagged of package digest.
  Tagged, leaf, node and Chain of package digest.
-/
import Derived.Test.YteigldfdaciopaaGreatDoorPkA
import Derived.Laws.OwnMore
import Derived.Deep.OwnRows
import Derived.Laws.Slices
import Derived.RegionTactic
import Derived.ChangeAlike
import Derived.BigRegion
import Derived.Laws.Tables
import Derived.Lib.ConvBytes
set_option linter.unusedVariables false
set_option linter.unusedSimpArgs false
namespace Go.Proofs.YteigldfdaciopaaGreatDoor
open Go.RowKit
set_option linter.unusedVariables false
set_option linter.unusedSimpArgs false

/-- A byte's cell of an owned slice. -/
theorem OwnB.cellAt {B : Nat} {w : World} {g n cap : Nat} {l : List UInt8} (h : OwnB B w (.slice (some ⟨g, 0, none⟩) n cap) l) (j : Nat) (hj : j < l.length) : w.cell? ⟨g, j, none⟩ = some (bv l[j]) := by
  have := World.ownsRow.cells h (g := g) rfl j (bv l[j]) (by simp [hj])
  rw [← this]; congr 1; rw [addr_add, Nat.zero_add]
theorem OwnB.frozenAt {B : Nat} {w : World} {g n cap : Nat} {l : List UInt8} (h : OwnB B w (.slice (some ⟨g, 0, none⟩) n cap) l) (j : Nat) : w.frozen? ⟨g, j, none⟩ = false := by
  rcases h.2 with ⟨h1, _⟩ | ⟨g', cap', cur, h1, _, hh, _⟩
  · cases h1
  · injection h1 with h1; injection h1 with h1; injection h1 with h1; subst h1
    exact frozen_of_row w g j _ _ hh
/-- A byte is stored. -/
theorem OwnB.stored {B : Nat} {w : World} {g cap : Nat} {l : List UInt8} (h : OwnB B w (.slice (some ⟨g, 0, none⟩) l.length cap) l) (j : Nat) (c : UInt8) :
    OwnB B (w.setCell ⟨g, j, none⟩ (bv c)) (.slice (some ⟨g, 0, none⟩) l.length cap) (l.set j c) := by
  have := (World.ownsRow.stored h j (bv c)).1
  unfold OwnB
  rw [List.length_set, List.map_set]
  exact this
/-- make([]byte, n). -/
theorem run_makeZ (n : Nat) (hn : n ≤ 140737488355328) (W : World) : (Instr.makeSlice 66 (.int .i64 (n : Int)) (.int .i64 (n : Int))).run Tryz.prog W = .ok (.slice (some ⟨W.heap.size, 0, none⟩) n n) (W.alloc (.cells (madeCells #[.int .u8 0] n) 5)) :=
  run_make_row' (P := Tryz.prog) 66 5 (.int .u8 0) 1 Tryz.underlying66 byteInfo rfl .i64 .i64 n (by omega) (by omega) W
theorem made_zeros (n : Nat) : (madeCells #[Value.int .u8 0] n).toList = (List.replicate n (0 : UInt8)).map bv := by
  rw [List.map_replicate]
  show (madeCells #[bv 0] n).toList = List.replicate n (bv 0)
  apply List.ext_getElem
  · simp [madeCells]
  · intro i h1 h2
    simp [madeCells, Nat.mod_one]
theorem OwnB.zeros {B : Nat} {w : World} (n : Nat) (hn : n ≤ 140737488355328) (hB : B ≤ w.heap.size) : OwnB B (w.alloc (.cells (madeCells #[.int .u8 0] n) 5)) (.slice (some ⟨w.heap.size, 0, none⟩) n n) (List.replicate n 0) := by
  have h := World.ownsRow_lit (base := B) (e := 5) (size := 1) w (madeCells #[.int .u8 0] n) n hB (by unfold maxLen; omega) (by rw [size_madeCells]; simp)
  unfold OwnB
  rw [List.length_replicate, ← made_zeros]
  exact h
/-- The beginning and the rest of a slice that is read. -/
theorem RdB.take {B : Nat} {w : World} {a : Option Addr} {l : List UInt8} (h : RdB B w a l) (k : Nat) : RdB B w a (l.take k) := by
  refine ⟨by have := h.1; rw [List.length_take]; omega, ?_⟩
  rcases h.2 with h2 | ⟨b, o, ha, hb, hc⟩
  · left; rw [h2]; simp
  · right
    refine ⟨b, o, ha, hb, fun j hj => ?_⟩
    rw [List.length_take] at hj
    rw [hc j (by omega), List.getElem_take]
theorem RdB.drop {B : Nat} {w : World} {b o : Nat} {l : List UInt8} (h : RdB B w (some ⟨b, o, none⟩) l) (k : Nat) : RdB B w (some ⟨b, o + k, none⟩) (l.drop k) := by
  refine ⟨by have := h.1; rw [List.length_drop]; omega, ?_⟩
  rcases h.2 with h2 | ⟨b', o', ha, hb, hc⟩
  · left; rw [h2]; simp
  · right
    injection ha with ha; injection ha with h1 h2
    subst h1; subst h2
    refine ⟨b, o + k, rfl, hb, fun j hj => ?_⟩
    rw [List.length_drop] at hj
    rw [Nat.add_assoc, hc (k + j) (by omega), List.getElem_drop]
/-- The address that cutting at k gives, whatever the room behind it. -/
theorem RdB.cutAt {B : Nat} {w : World} {b o cap : Nat} {l : List UInt8} (h : RdB B w (some ⟨b, o, none⟩) l) (hcap : l.length ≤ cap) (k : Nat) : RdB B w (some (if cap = k then ⟨b, o, none⟩ else ⟨b, o + k, none⟩)) (l.drop k) := by
  by_cases hk : cap = k
  · rw [if_pos hk]
    refine ⟨by have := h.1; rw [List.length_drop]; omega, .inl ?_⟩
    exact List.drop_eq_nil_of_le (by omega)
  · rw [if_neg hk]; exact h.drop k
theorem OwnB.rd {B : Nat} {w : World} {a : Option Addr} {n cap : Nat} {l : List UInt8} (h : OwnB B w (.slice a n cap) l) : RdB w.heap.size w a l := by
  obtain ⟨a', cap', e, _, hr⟩ := h.form
  injection e with e1
  rw [e1]; exact hr
/-- A byte's cell of a slice that is read. -/
theorem RdB.cellAt {B : Nat} {w : World} {b o : Nat} {l : List UInt8} (h : RdB B w (some ⟨b, o, none⟩) l) (j : Nat) (hj : j < l.length) : w.cell? ⟨b, o + j, none⟩ = some (bv l[j]) := by
  rcases h.2 with h2 | ⟨b', o', ha, hb, hc⟩
  · subst h2; simp at hj
  · injection ha with ha; injection ha with h1 h2
    subst h1; subst h2
    exact hc j hj
theorem RdB.at_ {B : Nat} {w : World} {a : Option Addr} {l : List UInt8} (h : RdB B w a l) (hl : 0 < l.length) : ∃ b o, a = some ⟨b, o, none⟩ ∧ b < B ∧ ∀ j (hj : j < l.length), w.cell? ⟨b, o + j, none⟩ = some (bv l[j]) := by
  rcases h.2 with h2 | h2
  · subst h2; simp at hl
  · exact h2
theorem bv_xor (a b : UInt8) : bits .xor .u8 (a.toNat : Int) (b.toNat : Int) = (((a ^^^ b).toNat : Nat) : Int) := by
  show IntKind.u8.wrap ((BitVec.ofInt 8 (a.toNat : Int) ^^^ BitVec.ofInt 8 (b.toNat : Int)).toNat : Int) = _
  have hx := UInt8.toNat_xor a b
  have hlt : a.toNat ^^^ b.toNat < 256 := by rw [← hx]; exact (a ^^^ b).toNat_lt
  rw [hx, BitVec.ofInt_natCast, BitVec.ofInt_natCast, BitVec.toNat_xor, BitVec.toNat_ofNat, BitVec.toNat_ofNat, Nat.mod_eq_of_lt a.toNat_lt, Nat.mod_eq_of_lt b.toNat_lt]
  generalize a.toNat ^^^ b.toNat = x at *
  simp [IntKind.wrap, IntKind.bits, IntKind.signed]
  omega
end Go.Proofs.YteigldfdaciopaaGreatDoor

namespace Go.Proofs.YteigldfdaciopaaGreatDoor
open Go.RowKit

/-- The state after the first k blocks of m. -/
def stN (m : List UInt8) : Nat → List Nat
  | 0 => hNums
  | k + 1 => comp (stN m k) (wordsOf ((m.drop (64 * k)).take 64))
theorem stN_app (m l : List UInt8) : ∀ k, 64 * k ≤ m.length → stN (m ++ l) k = stN m k
  | 0, _ => rfl
  | k + 1, h => by
    simp only [stN]
    rw [stN_app m l k (by omega)]
    congr 2
    rw [List.drop_append_of_le_length (by omega), List.take_append_of_le_length (by rw [List.length_drop]; omega)]
theorem comp_len (st blk : List Nat) : (comp st blk).length = 8 := addTo_len _ _ _
theorem stN_len (m : List UInt8) (k : Nat) : (stN m k).length = 8 := by cases k with
  | zero => rfl
  | succ k => exact comp_len _ _
theorem wvl_len (st : List Nat) (h : st.length = 8) : (wv st).toList.length = 8 := by rw [Array.length_toList, wv_size, h]
theorem row_tail (st : List Nat) (part : List UInt8) (t : List Value) (i : Nat) (hst : st.length = 8) (hp : part.length = 64) : ((wv st).toList ++ (part.map bv ++ t))[72 + i]? = t[i]? := by
  have h1 := wvl_len st hst
  have h2 : (part.map bv).length = 64 := by rw [List.length_map, hp]
  rw [List.getElem?_append_right (by omega), List.getElem?_append_right (by omega), h1, h2]
  congr 1; omega
theorem set_tail (st : List Nat) (part : List UInt8) (t : List Value) (i : Nat) (v : Value) (hst : st.length = 8) (hp : part.length = 64) : ((wv st).toList ++ (part.map bv ++ t)).set (72 + i) v = (wv st).toList ++ (part.map bv ++ t.set i v) := by
  have h1 := wvl_len st hst
  have h2 : (part.map bv).length = 64 := by rw [List.length_map, hp]
  rw [List.set_append_right _ _ (by omega), List.set_append_right _ _ (by omega), h1, h2]
  congr 3; omega

/-- A hasher at block R, field by field. -/
def HF (w : World) (R : Nat) (st : List Nat) (part : List UInt8) (used : Int) (size : Int) : Prop := part.length = 64 ∧ HR w R st (part.map bv ++ [.int .i64 used, .int .u64 size])
theorem HF.row {w : World} {R : Nat} {st : List Nat} {part : List UInt8} {u s : Int} (h : HF w R st part u s) (i : Nat) : w.cell? ⟨R, i, none⟩ = ((wv st).toList ++ (part.map bv ++ [.int .i64 u, .int .u64 s]))[i]? := by
  rw [cell_of_row w R i _ _ _ h.2.2]; simp
theorem HF.used {w : World} {R : Nat} {st : List Nat} {part : List UInt8} {u s : Int} (h : HF w R st part u s) : w.cell? ⟨R, 72, none⟩ = some (.int .i64 u) := by
  rw [h.row, show (72 : Nat) = 72 + 0 from rfl, row_tail _ _ _ _ h.2.1 h.1]; rfl
theorem HF.size {w : World} {R : Nat} {st : List Nat} {part : List UInt8} {u s : Int} (h : HF w R st part u s) : w.cell? ⟨R, 73, none⟩ = some (.int .u64 s) := by
  rw [h.row, show (73 : Nat) = 72 + 1 from rfl, row_tail _ _ _ _ h.2.1 h.1]; rfl
theorem HF.part {w : World} {R : Nat} {st : List Nat} {part : List UInt8} {u s : Int} (h : HF w R st part u s) (j : Nat) (hj : j < part.length) : w.cell? ⟨R, 8 + j, none⟩ = some (bv part[j]) := by
  rw [h.row, List.getElem?_append_right (by rw [Array.length_toList, wv_size, h.2.1]; omega), Array.length_toList, wv_size, h.2.1, Nat.add_sub_cancel_left, List.getElem?_append_left (by simpa using hj)]
  simp [hj]
theorem HF.frozen {w : World} {R : Nat} {st : List Nat} {part : List UInt8} {u s : Int} (h : HF w R st part u s) (i : Nat) : w.frozen? ⟨R, i, none⟩ = false := h.2.frozen i
theorem HF.drewN {w : World} {R : Nat} {st : List Nat} {part : List UInt8} {u s : Int} (h : HF w R st part u s) (n : Nat) : HF (w.drewN n) R st part u s := h
theorem HF.lt {w : World} {R : Nat} {st : List Nat} {part : List UInt8} {u s : Int} (h : HF w R st part u s) : R < w.heap.size := h.2.lt
theorem HF.below {B : Nat} {w w' : World} {R : Nat} {st : List Nat} {part : List UInt8} {u s : Int} (h : HF w R st part u s) (hb : Below B w w') (hR : R < B) : HF w' R st part u s := ⟨h.1, h.2.below hb hR⟩
theorem HF.setRow {w w' : World} {R : Nat} {st : List Nat} {part part' : List UInt8} {u s u' s' : Int} (h : HF w R st part u s) (hp : part'.length = 64) (c : List Value) (hc : c = (wv st).toList ++ (part'.map bv ++ [.int .i64 u', .int .u64 s'])) (hw : w'.heap[R]? = some (.cells c.toArray 121 (0, 0))) : HF w' R st part' u' s' := by
  subst hc; exact ⟨hp, h.2.1, hw⟩
theorem HF.setUsed {w : World} {R : Nat} {st : List Nat} {part : List UInt8} {u s : Int} (h : HF w R st part u s) (u' : Int) : HF (w.setCell ⟨R, 72, none⟩ (.int .i64 u')) R st part u' s := by
  refine h.setRow h.1 _ rfl ?_
  rw [heap_setCell_same w R 72 _ _ _ h.2.2]
  congr 2
  apply Array.ext'
  rw [Array.toList_setIfInBounds]
  exact set_tail _ _ _ 0 _ h.2.1 h.1
theorem HF.setSize {w : World} {R : Nat} {st : List Nat} {part : List UInt8} {u s : Int} (h : HF w R st part u s) (s' : Int) : HF (w.setCell ⟨R, 73, none⟩ (.int .u64 s')) R st part u s' := by
  refine h.setRow h.1 _ rfl ?_
  rw [heap_setCell_same w R 73 _ _ _ h.2.2]
  congr 2
  apply Array.ext'
  rw [Array.toList_setIfInBounds]
  exact set_tail _ _ _ 1 _ h.2.1 h.1

/-- A copy of bytes into the part, from place u on. -/
theorem splice_part (st : List Nat) (part l : List UInt8) (t : List Value) (u : Nat) (hst : st.length = 8) (hu : u + l.length ≤ part.length) :
    splice ((wv st).toList ++ (part.map bv ++ t)) (8 + u) (l.map bv) = (wv st).toList ++ ((splice part u l).map bv ++ t) := by
  have hw : (wv st).toList.length = 8 := by rw [Array.length_toList, wv_size, hst]
  unfold splice
  rw [← hw, List.take_length_add_append, List.length_map, Nat.add_assoc, List.drop_length_add_append, List.take_append_of_le_length (by rw [List.length_map]; omega), List.drop_append_of_le_length (by rw [List.length_map]; omega)]
  simp [List.append_assoc, List.map_take, List.map_drop]

/-- The hasher at block R to which m came. -/
def HM (w : World) (R : Nat) (m : List UInt8) : Prop := ∃ part, HF w R (stN m (m.length / 64)) part (m.length % 64 : Nat) (m.length : Nat) ∧ part.take (m.length % 64) = m.drop (64 * (m.length / 64))

theorem HM.lt {w : World} {R : Nat} {m : List UInt8} (h : HM w R m) : R < w.heap.size := by
  obtain ⟨_, hf, _⟩ := h
  exact hf.lt
theorem HM.drew {w : World} {R : Nat} {m : List UInt8} (h : HM w R m) : HM w.drew R m := h
/-- Bytes that can be read, outside block R. -/
def RdX (R : Nat) (w : World) (a : Option Addr) (l : List UInt8) : Prop :=
  l.length ≤ maxLen ∧ (l = [] ∨ ∃ b o, a = some ⟨b, o, none⟩ ∧ b < w.heap.size ∧ b ≠ R ∧ ∀ j (h : j < l.length), w.cell? ⟨b, o + j, none⟩ = some (bv l[j]))

theorem RdX.at_ {R : Nat} {w : World} {a : Option Addr} {l : List UInt8} (h : RdX R w a l) (h0 : 0 < l.length) : ∃ ad, a = some ad ∧ ∀ (j : Nat) (x : UInt8), l[j]? = some x → w.cell? (ad.add j) = some (bv x) := by
  rcases h.2 with h2 | ⟨b, o, ha, _, _, hc⟩
  · subst h2; simp at h0
  · refine ⟨_, ha, fun j v hv => ?_⟩
    obtain ⟨hj, e2⟩ := List.getElem?_eq_some_iff.1 hv
    have e : (⟨b, o, none⟩ : Addr).add j = ⟨b, o + j, none⟩ := by unfold Addr.add; split <;> simp_all
    rw [e, hc j hj, e2]
theorem HF.copy {w w' : World} {R : Nat} {st : List Nat} {part r : List UInt8} {u s : Int} (o : Nat) (h : HF w R st part u s) (hr : o + r.length ≤ 64) (h3 : w'.heap[R]? = some (.cells (splice ((wv st).toList ++ (part.map bv ++ [Value.int .i64 u, Value.int .u64 s])) (8 + o) (r.map bv)).toArray 121 (0, 0))) :
    HF w' R st (splice part o r) u s := by
  refine h.setRow ?_ _ ?_ h3
  · have := h.1
    simp [splice]; omega
  · exact splice_part st part r _ o h.2.1 (by rw [h.1]; exact hr)
theorem HF.copy0 {w w' : World} {R : Nat} {st : List Nat} {part r : List UInt8} {u s : Int} (h : HF w R st part u s) (hr : r.length ≤ 64) (h3 : w'.heap[R]? = some (.cells (splice ((wv st).toList ++ (part.map bv ++ [Value.int .i64 u, Value.int .u64 s])) 8 (r.map bv)).toArray 121 (0, 0))) :
    HF w' R st (splice part 0 r) u s := h.copy 0 (by omega) h3
theorem splice0_take (part r : List UInt8) : (splice part 0 r).take r.length = r := by
  unfold splice; simp
theorem HM.fill {w : World} {R : Nat} {M part r : List UInt8} {q : Nat} {u s : Int} (h : HF w R (stN M q) part u s) (hu : u = (r.length : Nat)) (hs : s = (M.length : Nat)) (hq : 64 * q + r.length = M.length) (hr : r.length < 64) (hd : M.drop (64 * q) = r) (hp : part.take r.length = r) : HM w R M := by
  subst hu hs
  have e1 : M.length / 64 = q := by omega
  have e2 : M.length % 64 = r.length := by omega
  refine ⟨part, ?_, ?_⟩
  · rw [e1, e2]; exact h
  · rw [e1, e2, hd, hp]
theorem HM.more {w w' : World} {R u : Nat} {m part l : List UInt8} {sz : Int} (h : HF w R (stN m (m.length / 64)) (splice part u l) (u : Nat) sz) (hu : m.length % 64 = u) (hpt : part.take u = m.drop (64 * (m.length / 64))) (hu0 : 0 < u) (hl : u + l.length < 64) (hs : sz = ((m ++ l).length : Nat)) (hw : w' = w.setCell ⟨R, 72, none⟩ (.int .i64 ((u : Int) + (l.length : Int)))) : HM w' R (m ++ l) := by
  subst hw hs
  have e1 : (m ++ l).length / 64 = m.length / 64 := by rw [List.length_append]; omega
  have e2 : (m ++ l).length % 64 = u + l.length := by rw [List.length_append]; omega
  refine ⟨splice part u l, ?_, ?_⟩
  · rw [e1, e2, stN_app m l _ (by omega), Int.natCast_add]
    exact h.setUsed _
  · rw [e1, e2, List.drop_append_of_le_length (by omega), ← hpt]
    have h1 := h.1
    unfold splice at h1 ⊢
    simp only [List.length_append, List.length_take, List.length_drop] at h1
    rw [← List.append_assoc, List.take_append_of_le_length (by simp; omega), List.take_of_length_le (by simp; omega)]
/-- What a slice's length is. -/
def sliceLen : Value → Nat
  | .slice _ n _ => n
  | _ => 0
theorem wordsOf_len (l : List UInt8) : (wordsOf l).length = 16 := by simp [wordsOf]
theorem RdX.grown {R : Nat} {w w' : World} {a : Option Addr} {l : List UInt8} (h : RdX R w a l) (hg : w.grownBy w' (some R)) : RdX R w' a l := by
  refine ⟨h.1, ?_⟩
  rcases h.2 with h2 | ⟨b, o, ha, hb, hn, hc⟩
  · exact .inl h2
  · exact .inr ⟨b, o, ha, Nat.lt_of_lt_of_le hb hg.size, hn, fun j hj => (World.cell?_of_block (w := w) (a := ⟨b, o + j, none⟩) (hg.block b hb (fun e => hn (by injection e)))).trans (hc j hj)⟩
theorem RdX.below {R : Nat} {w w' : World} {a : Option Addr} {l : List UInt8} (h : RdX R w a l) (hg : Below w.heap.size w w') : RdX R w' a l :=
  h.grown ⟨hg.os, hg.tape, hg.output, hg.size, fun k hk _ => hg.block k hk⟩

/-- The loop of write: the whole message M, of which q blocks have been absorbed; r is left. -/
structure WRel (R : Nat) (M : List UInt8) (q : Nat) (a : Option Addr) (r : List UInt8) (c : Nat) (w wr : World) : Prop where
  cap : r.length ≤ c
  capMax : c ≤ maxLen
  read : RdX R wr a r
  row : ∃ part used, HF wr R (stN M q) part used (M.length : Nat)
  grown : w.grownBy wr (some R)
theorem WRel.at_ {R : Nat} {M : List UInt8} {q : Nat} {a : Option Addr} {r : List UInt8} {cap : Nat} {w wr : World} (h : WRel R M q a r cap w wr) (hr : 0 < r.length) : ∃ b o, a = some ⟨b, o, none⟩ ∧ b < wr.heap.size ∧ b ≠ R ∧ ∀ j (h : j < r.length), wr.cell? ⟨b, o + j, none⟩ = some (bv r[j]) := by
  rcases h.read.2 with h2 | h2
  · subst h2; simp at hr
  · exact h2
theorem WRel.next {R : Nat} {M : List UInt8} {q cap b o : Nat} {r : List UInt8} {w wr w1 w2 : World} {part : List UInt8} {used : Int} (h : WRel R M q (some ⟨b, o, none⟩) r cap w wr)
    (hb : Below wr.heap.size wr w1) (hg : w1.grownBy w2 (some R)) (hf : HF wr R (stN M q) part used (M.length : Nat)) (hD : M.drop (64 * q) = r) (h64 : 64 ≤ r.length)
    (hr : HR w2 R (comp (stN M q) (wordsOf (r.take 64))) (part.map bv ++ [.int .i64 used, .int .u64 (M.length : Nat)])) {a' : Option Addr} (ha : a' = if cap = 64 then some ⟨b, o, none⟩ else some ⟨b, o + 64, none⟩) :
    WRel R M (q + 1) a' (r.drop 64) (cap - 64) w w2 := by
  have h0 := h.cap
  have h1 := h.capMax
  have hg2 : wr.grownBy w2 (some R) := grown_trans ⟨hb.os, hb.tape, hb.output, hb.size, fun k hk _ => hb.block k hk⟩ hg
  refine ⟨by rw [List.length_drop]; omega, by omega, ?_, ⟨part, used, hf.1, ?_⟩, grown_trans h.grown hg2⟩
  · have hr2 := h.read.grown hg2
    refine ⟨by rw [List.length_drop]; have := hr2.1; omega, ?_⟩
    rcases hr2.2 with h2 | ⟨b', o', e, hb2, hbR, hc⟩
    · subst h2; simp at h64
    · injection e with e
      injection e with e1 e2
      subst e1 e2
      by_cases hc64 : cap = 64
      · left
        exact List.drop_eq_nil_of_le (by omega)
      · right
        rw [if_neg hc64] at ha
        refine ⟨b, o + 64, ha, hb2, hbR, fun j hj => ?_⟩
        rw [List.length_drop] at hj
        rw [Nat.add_assoc, hc (64 + j) (by omega), List.getElem_drop]
  · simp only [stN]
    rw [hD]
    exact hr

set_option maxRecDepth 100000 in
set_option maxHeartbeats 1600000 in
theorem write_zero (R : Nat) (m : List UInt8) (a : Option Addr) (cap : Nat) (l : List UInt8) (w : World) (hT : Tab w) (hR : 5 ≤ R) (h : HM w R m) (hu : m.length % 64 = 0) (hl : RdX R w a l) (hcap : l.length ≤ cap) (hc2 : cap ≤ maxLen) (hn : m.length + l.length ≤ 1152921504606846976) :
    Calls Tryz.prog 114 #[.pointer (some ⟨R, 0, none⟩), .slice a l.length cap] w fun e w' => e = .returned (.tuple #[]) ∧ HM w' R (m ++ l) ∧ w.grownBy w' (some R) := by
  have hc2' := hc2
  have hsz1 : (Tryz.prog.info? 5).map (·.size) = some 1 := by kernel_rfl
  unfold maxLen at hc2
  obtain ⟨part, hf, _⟩ := h
  rw [hu] at hf
  have h72 := hf.used
  have h73 := hf.size
  have f72 := hf.frozen 72
  have f73 := hf.frozen 73
  have HT := Lib.hid hT
  have HP : Hid (64 * (m.length / 64) = m.length + 0 ∧ 0 ≤ l.length) := ⟨by omega, by omega⟩
  have HREL : Hid (WRel R (m ++ l) (m.length / 64) a (l.drop 0) cap w (w.setCell ⟨R, 73, none⟩ (.int .u64 ((m.length : Int) + (l.length : Int))))) := by
    have c1 : w.grownBy (w.setCell ⟨R, 73, none⟩ (.int .u64 ((m.length : Int) + (l.length : Int)))) (some R) := grown_set ⟨rfl, rfl, rfl, Nat.le_refl _, fun _ _ _ => rfl⟩ 73 _
    refine ⟨hcap, hc2', hl.grown c1, ⟨part, ((0 : Nat) : Int), ?c2⟩, c1⟩
    case c2 =>
      rw [stN_app m l _ (by omega), List.length_append, Int.natCast_add]
      exact hf.setSize _
  clear hf hT hl hu hc2'
  go_enter Tryz.func114, Tryz.ntmps114
  go_wp2_with fail
  go_loopw [1] (fun s wr => ∃ (q p : Nat) (a' : Option Addr) (cap' : Nat), 64 * q = m.length + p ∧ p ≤ l.length ∧ s = .slice a' (l.drop p).length cap' ∧ WRel R (m ++ l) q a' (l.drop p) cap' w wr) (fun s _ => sliceLen s)
  case atStart => exact ⟨_, _, _, _, HP.out.1, HP.out.2, rfl, HREL.out⟩
  case round =>
    clear HREL HP
    obtain ⟨q, p, a', cap', hq, hp, rfl, hrel⟩ := hrel
    have HQ := Lib.hid hq
    have HPL := Lib.hid hp
    have HD : Hid ((m ++ l).drop (64 * q) = l.drop p) := by show _ = _; rw [hq]; simp
    clear hq hp
    obtain ⟨r, hr⟩ : ∃ r, r = l.drop p := ⟨_, rfl⟩
    rw [← hr] at hrel HD ⊢
    have HRR := Lib.hid hr
    clear hr
    have hca := hrel.cap
    have hcb := hrel.capMax
    unfold maxLen at hcb
    have HREL := Lib.hid hrel
    have hT1 := HT.out.grown hrel.grown hR
    have HT1 := Lib.hid hT1
    clear hrel hT1
    by_cases h64 : 64 ≤ r.length
    · obtain ⟨b, o, rfl, hb, hbR, hcell⟩ := HREL.out.at_ (by omega)
      have HCELL := Lib.hid hcell
      clear hcell
      obtain ⟨part, used, hf⟩ := HREL.out.row
      have HF1 := Lib.hid hf
      clear hf
      go_wp2_with fail
      refine (words_any b o r.length cap' (r.take 64) _ h64 (by unfold maxLen; omega) hca hb (by rw [List.length_take]; omega) (fun j hj => by rw [HCELL.out j (by rw [List.length_take] at hj; omega), List.getElem_take])).mono ?_
      rintro e w1 ⟨rfl, hb1⟩
      have HB1 := Lib.hid hb1
      clear hb1
      go_wp2_with fail
      refine (absorb_any R _ _ _ _ (HT1.out.below HB1.out HT1.out.lt) hR (HF1.out.2.below HB1.out HF1.out.lt) (wordsOf_len _)).mono ?_
      rintro e w2 ⟨rfl, hr2, hg2⟩
      have HN : Hid (WRel R (m ++ l) (q + 1) (if cap' = 64 then some ⟨b, o, none⟩ else some ⟨b, o + 64, none⟩) (r.drop 64) (cap' - 64) w w2) := by
        have hU := grown_trans (grown_call HREL.out.grown HB1.out) hg2
        refine WRel.next HREL.out HB1.out hg2 HF1.out HD.out h64 ?_ rfl
        rw [← HRR.out] at *
        exact hr2
      have HD2 : Hid (r.drop 64 = l.drop (p + 64)) := by show _ = _; rw [HRR.out, List.drop_drop]
      have HLN : Hid ((l.drop (p + 64)).length = r.length - 64) := by show _ = _; rw [← HD2.out, List.length_drop]
      clear hr2 hg2
      go_wp2_with fail
      all_goals
        go_roundw
        case rel => exact ⟨q + 1, p + 64, _, _, by have := HQ.out; omega, by have := HPL.out; have h := HRR.out; rw [h, List.length_drop] at h64; omega, by rw [HLN.out], by rw [← HD2.out]; exact HN.out⟩
        case measure => simp [sliceLen]; omega
    · obtain ⟨part, used, hf⟩ := HREL.out.row
      obtain ⟨sz, hsz⟩ : ∃ sz : Int, sz = ((m ++ l).length : Nat) := ⟨_, rfl⟩
      rw [← hsz] at hf
      have HSZ := Lib.hid hsz
      clear hsz
      have HF1 := Lib.hid hf
      have HRD := Lib.hid HREL.out.read
      have HGR := Lib.hid HREL.out.grown
      clear hf
      go_wp2_with (refine wpList_copyRow rfl (.tmp 70) (.tmp 71) 66 66 rfl 5 Tryz.underlying66 hsz1 (some ⟨R, 8, none⟩) a' 64 64 r.length cap' rfl rfl R 8 _ 121 HF1.out.2.2 (r.map bv) ?c1 ?c2 ?c3 ?c4 ?c5)
      case c1 => rw [List.length_map]; exact (Nat.min_eq_left (by omega)).symm
      case c2 => intro h0; exact HRD.out.at_ (by simpa using h0)
      case c3 => have h1 := HF1.out.1; have h2 := HF1.out.2.1; simp [wv_size, h1, h2]; omega
      case c4 => intro v hv; obtain ⟨x, _, rfl⟩ := List.mem_map.1 hv; rfl
      intro w3 h3 hg3
      have HF3 := Lib.hid (HF1.out.copy0 (r := r) (by omega) h3)
      have HG3 := Lib.hid (grown_trans HGR.out hg3)
      clear h3 hg3
      have h72 := HF3.out.used
      have f72 := HF3.out.frozen 72
      go_wp2_with fail
      go_end0
      exact ⟨rfl, HM.fill (HF3.out.setUsed _) rfl HSZ.out (by have := HQ.out; have := HPL.out; have h := HRR.out; rw [h, List.length_drop]; simp; omega) (by omega) HD.out (splice0_take _ _), grown_set HG3.out 72 _⟩
set_option maxRecDepth 100000 in
/-- part[u:]. -/
theorem slice_part (R u : Nat) (hu : u < 64) (W : World) : (Instr.sliceAt 119 (.pointer (some ⟨R, 8, none⟩)) (some (.int .i64 (u : Int))) none none).run Tryz.prog W = .ok (.slice (some ⟨R, 8 + u, none⟩) (64 - u) (64 - u)) W := by
  have h1 : (Instr.sliceAt 119 (.pointer (some ⟨R, 8, none⟩)) (some (.int .i64 (u : Int))) none none).run Tryz.prog W = _ := run_sliceAt_array_l (P := Tryz.prog) W 119 ⟨R, 8, none⟩ (by kernel_rfl) .i64 (u : Int) (by omega) (by show (u : Int) ≤ ((64 : Nat) : Int); omega)
  rw [h1]
  have e : (⟨R, 8, none⟩ : Addr).add u = ⟨R, 8 + u, none⟩ := by unfold Addr.add; split <;> simp_all
  have e2 : (64 : Nat) ≠ u := by omega
  have hz : (sizeOf (Tryz.prog.elem 119)).run Tryz.prog W = .ok 1 W := by kernel_rfl
  have hz2 : Tryz.prog.arrayLen 119 = 64 := by kernel_rfl
  rw [hz, hz2]
  simp [Result.andThen, slicedAt, e, e2]
/-- b[n:]. -/
def tailS (a : Option Addr) (len cap n : Nat) : Value := .slice (if cap = n then a else a.map (·.add n)) (len - n) (cap - n)
theorem slice_from (a : Option Addr) (len cap n : Nat) (h : n ≤ len) (W : World) : (Instr.slice 66 (.slice a len cap) (some (.int .i64 (n : Int))) none none).run Tryz.prog W = .ok (tailS a len cap n) W := by
  rw [run_slice_l (P := Tryz.prog) W 66 a len cap (by kernel_rfl) .i64 (n : Int) (by omega) (by omega)]
  have hz : (sizeOf (Tryz.prog.elem 66)).run Tryz.prog W = .ok 1 W := by kernel_rfl
  rw [hz]
  simp [Result.andThen, sliced, tailS]

theorem RdX.take {R : Nat} {w : World} {a : Option Addr} {l : List UInt8} (h : RdX R w a l) (n : Nat) : RdX R w a (l.take n) := by
  refine ⟨by rw [List.length_take]; have := h.1; omega, ?_⟩
  rcases h.2 with h2 | ⟨b, o, ha, hb, hR, hc⟩
  · left; rw [h2]; simp
  · exact .inr ⟨b, o, ha, hb, hR, fun j hj => by rw [List.length_take] at hj; rw [hc j (by omega), List.getElem_take]⟩
theorem RdX.drop {R : Nat} {w : World} {a : Option Addr} {l : List UInt8} (h : RdX R w a l) {cap : Nat} (hcap : l.length ≤ cap) (n : Nat) : RdX R w (if cap = n then a else a.map (·.add n)) (l.drop n) := by
  refine ⟨by rw [List.length_drop]; have := h.1; omega, ?_⟩
  rcases h.2 with h2 | ⟨b, o, ha, hb, hR, hc⟩
  · left; rw [h2]; simp
  · by_cases e : cap = n
    · left; exact List.drop_eq_nil_of_le (by omega)
    · right
      have e1 : (⟨b, o, none⟩ : Addr).add n = ⟨b, o + n, none⟩ := by unfold Addr.add; split <;> simp_all
      refine ⟨b, o + n, by rw [if_neg e, ha]; simp [e1], hb, hR, fun j hj => ?_⟩
      rw [List.length_drop] at hj
      rw [Nat.add_assoc, hc (n + j) (by omega), List.getElem_drop]
/-- The loop's relation behind the first block. -/
theorem WRel.start {R u : Nat} {m l lt part : List UInt8} {a : Option Addr} {cap : Nat} {w w0 w1 w2 : World} {used sz : Int} (hrd : RdX R w0 a l) (hcap : l.length ≤ cap) (hc2 : cap ≤ maxLen) (hg : w.grownBy w0 (some R)) (hpl : part.length = 64)
    (hb : Below w0.heap.size w0 w1) (hg2 : w1.grownBy w2 (some R)) (hu : m.length % 64 = u) (hpt : part.take u = m.drop (64 * (m.length / 64))) (hu0 : 0 < u) (hun : u + lt.length = 64) (hnl : lt.length ≤ l.length) (hlt : l.take lt.length = lt) (hsz : sz = ((m ++ l).length : Nat))
    (hr : HR w2 R (comp (stN m (m.length / 64)) (wordsOf (splice part u lt))) ((splice part u lt).map bv ++ [.int .i64 used, .int .u64 sz])) :
    ∃ (q p : Nat) (a' : Option Addr) (cap' : Nat), 64 * q = m.length + p ∧ p ≤ l.length ∧ tailS a l.length cap lt.length = .slice a' (l.drop p).length cap' ∧ WRel R (m ++ l) q a' (l.drop p) cap' w w2 := by
  have hg3 : w0.grownBy w2 (some R) := grown_trans ⟨hb.os, hb.tape, hb.output, hb.size, fun k hk _ => hb.block k hk⟩ hg2
  have hlen : (splice part u lt).length = 64 := by simp [splice]; omega
  have e : splice part u lt = ((m ++ l).drop (64 * (m.length / 64))).take 64 := by
    rw [List.drop_append_of_le_length (by omega), ← hpt, List.take_append, List.take_of_length_le (l := List.take u part) (by rw [List.length_take]; omega)]
    have e1 : 64 - (List.take u part).length = lt.length := by rw [List.length_take]; omega
    rw [e1, hlt]
    unfold splice
    rw [List.drop_eq_nil_of_le (by omega), List.append_nil]
  refine ⟨m.length / 64 + 1, lt.length, _, _, by omega, hnl, by rw [List.length_drop]; rfl, ⟨by rw [List.length_drop]; omega, by omega, (hrd.grown hg3).drop hcap lt.length, ⟨splice part u lt, used, hlen, ?_⟩, grown_trans hg hg3⟩⟩
  subst hsz
  have e2 : stN (m ++ l) (m.length / 64 + 1) = comp (stN m (m.length / 64)) (wordsOf (splice part u lt)) := by
    rw [e]; simp only [stN]; rw [stN_app m l _ (by omega)]
  rw [e2]; exact hr

set_option maxRecDepth 100000 in
set_option maxHeartbeats 1600000 in
theorem write_some (R u : Nat) (m : List UInt8) (a : Option Addr) (cap : Nat) (l : List UInt8) (w : World) (hR : 5 ≤ R) (h : HM w R m) (hu : m.length % 64 = u) (hu0 : 0 < u) (hl : RdX R w a l) (hlu : u + l.length < 64) (hcap : l.length ≤ cap) (hc2 : cap ≤ maxLen) (hn : m.length + l.length ≤ 1152921504606846976) :
    Calls Tryz.prog 114 #[.pointer (some ⟨R, 0, none⟩), .slice a l.length cap] w fun e w' => e = .returned (.tuple #[]) ∧ HM w' R (m ++ l) ∧ w.grownBy w' (some R) := by
  have hsz1 : (Tryz.prog.info? 5).map (·.size) = some 1 := by kernel_rfl
  unfold maxLen at hc2
  obtain ⟨part, hf, hpt⟩ := h
  rw [hu] at hf hpt
  obtain ⟨sz, hsz⟩ : ∃ sz : Int, sz = ((m ++ l).length : Nat) := ⟨_, rfl⟩
  have HSZ := Lib.hid hsz
  have h72 := hf.used
  have h73 := hf.size
  have f72 := hf.frozen 72
  have f73 := hf.frozen 73
  have HU := Lib.hid hu
  have HPT := Lib.hid hpt
  have HG1 : Hid (w.grownBy (w.setCell ⟨R, 73, none⟩ (.int .u64 ((m.length : Int) + (l.length : Int)))) (some R)) := grown_set ⟨rfl, rfl, rfl, Nat.le_refl _, fun _ _ _ => rfl⟩ 73 _
  have HF1 : Hid (HF (w.setCell ⟨R, 73, none⟩ (.int .u64 ((m.length : Int) + (l.length : Int)))) R (stN m (m.length / 64)) part (u : Nat) sz) := by rw [hsz, List.length_append, Int.natCast_add]; exact hf.setSize _
  have HRD : Hid (RdX R (w.setCell ⟨R, 73, none⟩ (.int .u64 ((m.length : Int) + (l.length : Int)))) a l) := hl.grown HG1.out
  clear hf hl hu hpt hsz
  go_enter Tryz.func114, Tryz.ntmps114
  go_wp2_with fail
  obtain ⟨w1, hw1⟩ : ∃ w1, w1 = w.setCell ⟨R, 73, none⟩ (.int .u64 ((m.length : Int) + (l.length : Int))) := ⟨_, rfl⟩
  rw [← hw1] at HG1 HF1 HRD
  rw [← hw1]
  clear hw1 h72 h73 f72 f73
  have h72 := HF1.out.used
  have f72 := HF1.out.frozen 72
  have hsl := slice_part R u (by omega)
  go_still_tail 9, (by kernel_rfl)
  change wpList _ _ _ _ _ w1.drew
  go_wp2_with (refine wpList_copyRow rfl (.tmp 30) (.tmp 31) 66 66 rfl 5 Tryz.underlying66 hsz1 (some ⟨R, 8 + u, none⟩) a (64 - u) (64 - u) l.length cap rfl rfl R (8 + u) _ 121 HF1.out.2.2 (l.map bv) ?c1 ?c2 ?c3 ?c4 ?c5)
  case c1 => rw [List.length_map]; exact (Nat.min_eq_left (by omega)).symm
  case c2 => intro h0; exact HRD.out.at_ (by simpa using h0)
  case c3 => have h1 := HF1.out.1; have h2 := HF1.out.2.1; simp [wv_size, h1, h2]; omega
  case c4 => intro v hv; obtain ⟨x, _, rfl⟩ := List.mem_map.1 hv; rfl
  intro w3 h3 hg3
  have HF3 := Lib.hid (HF1.out.copy (r := l) u (by omega) h3)
  have HG3 := Lib.hid (grown_trans (grown_drew HG1.out) hg3)
  clear h3 hg3 h72 f72 HF1 HRD HG1 hsl
  have h72 := HF3.out.used
  have f72 := HF3.out.frozen 72
  have hsl := slice_from a l.length cap l.length (Nat.le_refl _)
  go_wp2_with fail
  have hs2 : IntKind.i64.wrap ((u : Int) + (l.length : Int)) = (u : Int) + (l.length : Int) := IntWalk.i64_in _ (by omega)
  go_region
  go_wp2_with fail
  refine bodyPost_ret (v := .tuple #[]) (results_none rfl _ _ _) rfl ⟨rfl, HM.drew (HM.more HF3.out HU.out HPT.out hu0 hlu HSZ.out rfl), grown_drew (grown_set HG3.out 72 _)⟩
set_option maxRecDepth 100000 in
set_option maxHeartbeats 3200000 in
theorem write_fill (R u : Nat) (m lt : List UInt8) (a : Option Addr) (cap : Nat) (l : List UInt8) (w : World) (hT : Tab w) (hR : 5 ≤ R) (h : HM w R m) (hu : m.length % 64 = u) (hu0 : 0 < u) (hl : RdX R w a l) (hun : u + lt.length = 64) (hnl : lt.length ≤ l.length) (hlt : l.take lt.length = lt) (hcap : l.length ≤ cap) (hc2 : cap ≤ maxLen) (hn : m.length + l.length ≤ 1152921504606846976) :
    Calls Tryz.prog 114 #[.pointer (some ⟨R, 0, none⟩), .slice a l.length cap] w fun e w' => e = .returned (.tuple #[]) ∧ HM w' R (m ++ l) ∧ w.grownBy w' (some R) := by
  have hsz1 : (Tryz.prog.info? 5).map (·.size) = some 1 := by kernel_rfl
  have hc2' := hc2
  unfold maxLen at hc2
  have HT := Lib.hid hT
  obtain ⟨part, hf, hpt⟩ := h
  rw [hu] at hf hpt
  have HPL := Lib.hid hf.1
  obtain ⟨sz, hsz⟩ : ∃ sz : Int, sz = ((m ++ l).length : Nat) := ⟨_, rfl⟩
  have HSZ := Lib.hid hsz
  have h72 := hf.used
  have h73 := hf.size
  have f72 := hf.frozen 72
  have f73 := hf.frozen 73
  have HU := Lib.hid hu
  have HPT := Lib.hid hpt
  have HG1 : Hid (w.grownBy (w.setCell ⟨R, 73, none⟩ (.int .u64 ((m.length : Int) + (l.length : Int)))) (some R)) := grown_set ⟨rfl, rfl, rfl, Nat.le_refl _, fun _ _ _ => rfl⟩ 73 _
  have HF1 : Hid (HF (w.setCell ⟨R, 73, none⟩ (.int .u64 ((m.length : Int) + (l.length : Int)))) R (stN m (m.length / 64)) part (u : Nat) sz) := by rw [hsz, List.length_append, Int.natCast_add]; exact hf.setSize _
  have HRD : Hid (RdX R (w.setCell ⟨R, 73, none⟩ (.int .u64 ((m.length : Int) + (l.length : Int)))) a l) := hl.grown HG1.out
  have HUN := Lib.hid hun
  have HLT := Lib.hid hlt
  have HL0 := Lib.hid hl
  have HRT : Hid (RdX R (w.setCell ⟨R, 73, none⟩ (.int .u64 ((m.length : Int) + (l.length : Int)))) a lt) := by have h := HRD.out.take lt.length; rw [hlt] at h; exact h
  have HL2 := Lib.hid hc2'
  have hu64 : u < 64 := by omega
  clear hun hlt hf hl hu hpt hsz hT hc2'
  go_enter Tryz.func114, Tryz.ntmps114
  go_wp2_with fail
  obtain ⟨w1, hw1⟩ : ∃ w1, w1 = w.setCell ⟨R, 73, none⟩ (.int .u64 ((m.length : Int) + (l.length : Int))) := ⟨_, rfl⟩
  rw [← hw1] at HG1 HF1 HRD HRT
  rw [← hw1]
  clear hw1 h72 h73 f72 f73
  have h72 := HF1.out.used
  have f72 := HF1.out.frozen 72
  have hsl := slice_part R u (by omega)
  go_still_tail 9, (by kernel_rfl)
  change wpList _ _ _ _ _ w1.drew
  go_wp2_with (refine wpList_copyRow rfl (.tmp 30) (.tmp 31) 66 66 rfl 5 Tryz.underlying66 hsz1 (some ⟨R, 8 + u, none⟩) a (64 - u) (64 - u) l.length cap rfl rfl R (8 + u) _ 121 HF1.out.2.2 (lt.map bv) ?c1 ?c2 ?c3 ?c4 ?c5)
  case c1 => rw [List.length_map]; have h1 : 64 - u = lt.length := by have := HUN.out; omega
             rw [h1]; exact (Nat.min_eq_right hnl).symm
  case c2 => intro h0; exact HRT.out.at_ (by have := HUN.out; omega)
  case c3 => have h1 := HF1.out.1; have h2 := HF1.out.2.1; have := HUN.out; simp [wv_size, h1, h2]; omega
  case c4 => intro v hv; obtain ⟨x, _, rfl⟩ := List.mem_map.1 hv; rfl
  intro w3 h3 hg3
  have HF3 := Lib.hid (HF1.out.copy (r := lt) u (by have := HUN.out; omega) h3)
  have HG3 := Lib.hid (grown_trans (grown_drew HG1.out) hg3)
  clear h3 hg3 h72 f72 HF1 hsl
  have h72 := HF3.out.used
  have f72 := HF3.out.frozen 72
  have hsl := slice_from a l.length cap lt.length hnl
  go_wp2_with fail
  have hs2 : IntKind.i64.wrap ((u : Int) + (lt.length : Int)) = (u : Int) + (lt.length : Int) := IntWalk.i64_in _ (by have := HUN.out; omega)
  have hge : 64 ≤ (u : Int) + (lt.length : Int) := by have := HUN.out; omega
  go_region
  have HF4 : Hid (HF (w3.setCell ⟨R, 72, none⟩ (.int .i64 ((u : Int) + (lt.length : Int)))).drew R (stN m (m.length / 64)) (splice part u lt) ((u : Int) + (lt.length : Int)) sz) := (HF3.out.setUsed _).drewN 1
  have HG4 : Hid (w.grownBy (w3.setCell ⟨R, 72, none⟩ (.int .i64 ((u : Int) + (lt.length : Int)))).drew (some R)) := grown_drew (grown_set HG3.out 72 _)
  clear hs2 hsl h72 f72
  obtain ⟨w4, hw4⟩ : ∃ w4, w4 = (w3.setCell ⟨R, 72, none⟩ (.int .i64 ((u : Int) + (lt.length : Int)))).drew := ⟨_, rfl⟩
  rw [← hw4] at HF4 HG4
  rw [← hw4]
  clear hw4
  have h72 := HF4.out.used
  have hR4 : R < w4.heap.size := HF4.out.lt
  go_wp2_with fail
  refine (words_any R 8 64 64 (splice part u lt) _ (by omega) (by unfold maxLen; omega) (by omega) hR4 HF4.out.1 HF4.out.part).mono ?_
  rintro e w5 ⟨rfl, hb5⟩
  have HB5 := Lib.hid hb5
  clear hb5
  go_wp2_with fail
  refine (absorb_any R _ _ _ _ ((HT.out.grown HG4.out hR).below HB5.out (HT.out.grown HG4.out hR).lt) hR (HF4.out.2.below HB5.out hR4) (wordsOf_len _)).mono ?_
  rintro e w6 ⟨rfl, hr6, hg6⟩
  have HR6 := Lib.hid hr6
  have HG6 := Lib.hid hg6
  clear hr6 hg6
  have HST := Lib.hid (WRel.start (w := w) (HL0.out.grown HG4.out) hcap HL2.out HG4.out HPL.out HB5.out HG6.out HU.out HPT.out hu0 HUN.out hnl HLT.out HSZ.out HR6.out)
  clear HR6 HG6 HB5 HF4 HF3 HG3 HG1 HRD HRT h72 hge
  go_wp2_with fail
  go_loopw [1] (fun s wr => ∃ (q p : Nat) (a' : Option Addr) (cap' : Nat), 64 * q = m.length + p ∧ p ≤ l.length ∧ s = .slice a' (l.drop p).length cap' ∧ WRel R (m ++ l) q a' (l.drop p) cap' w wr) (fun s _ => sliceLen s)
  case atStart => exact HST.out
  case round =>
    clear HST
    obtain ⟨q, p, a', cap', hq, hp, rfl, hrel⟩ := hrel
    have HQ := Lib.hid hq
    have HPL := Lib.hid hp
    have HD : Hid ((m ++ l).drop (64 * q) = l.drop p) := by show _ = _; rw [hq]; simp
    clear hq hp
    obtain ⟨r, hr⟩ : ∃ r, r = l.drop p := ⟨_, rfl⟩
    rw [← hr] at hrel HD ⊢
    have HRR := Lib.hid hr
    clear hr
    have hca := hrel.cap
    have hcb := hrel.capMax
    unfold maxLen at hcb
    have HREL := Lib.hid hrel
    have hT1 := HT.out.grown hrel.grown hR
    have HT1 := Lib.hid hT1
    clear hrel hT1
    by_cases h64 : 64 ≤ r.length
    · obtain ⟨b, o, rfl, hb, hbR, hcell⟩ := HREL.out.at_ (by omega)
      have HCELL := Lib.hid hcell
      clear hcell
      obtain ⟨part, used, hf⟩ := HREL.out.row
      have HF1 := Lib.hid hf
      clear hf
      go_wp2_with fail
      refine (words_any b o r.length cap' (r.take 64) _ h64 (by unfold maxLen; omega) hca hb (by rw [List.length_take]; omega) (fun j hj => by rw [HCELL.out j (by rw [List.length_take] at hj; omega), List.getElem_take])).mono ?_
      rintro e w1 ⟨rfl, hb1⟩
      have HB1 := Lib.hid hb1
      clear hb1
      go_wp2_with fail
      refine (absorb_any R _ _ _ _ (HT1.out.below HB1.out HT1.out.lt) hR (HF1.out.2.below HB1.out HF1.out.lt) (wordsOf_len _)).mono ?_
      rintro e w2 ⟨rfl, hr2, hg2⟩
      have HN : Hid (WRel R (m ++ l) (q + 1) (if cap' = 64 then some ⟨b, o, none⟩ else some ⟨b, o + 64, none⟩) (r.drop 64) (cap' - 64) w w2) := by
        have hU := grown_trans (grown_call HREL.out.grown HB1.out) hg2
        refine WRel.next HREL.out HB1.out hg2 HF1.out HD.out h64 ?_ rfl
        rw [← HRR.out] at *
        exact hr2
      have HD2 : Hid (r.drop 64 = l.drop (p + 64)) := by show _ = _; rw [HRR.out, List.drop_drop]
      have HLN : Hid ((l.drop (p + 64)).length = r.length - 64) := by show _ = _; rw [← HD2.out, List.length_drop]
      clear hr2 hg2
      go_wp2_with fail
      all_goals
        go_roundw
        case rel => exact ⟨q + 1, p + 64, _, _, by have := HQ.out; omega, by have := HPL.out; have h := HRR.out; rw [h, List.length_drop] at h64; omega, by rw [HLN.out], by rw [← HD2.out]; exact HN.out⟩
        case measure => simp [sliceLen]; omega
    · obtain ⟨part, used, hf⟩ := HREL.out.row
      obtain ⟨sz, hsz⟩ : ∃ sz : Int, sz = ((m ++ l).length : Nat) := ⟨_, rfl⟩
      rw [← hsz] at hf
      have HSZ := Lib.hid hsz
      clear hsz
      have HF1 := Lib.hid hf
      have HRD := Lib.hid HREL.out.read
      have HGR := Lib.hid HREL.out.grown
      clear hf
      go_wp2_with (refine wpList_copyRow rfl (.tmp 70) (.tmp 71) 66 66 rfl 5 Tryz.underlying66 hsz1 (some ⟨R, 8, none⟩) a' 64 64 r.length cap' rfl rfl R 8 _ 121 HF1.out.2.2 (r.map bv) ?d1 ?d2 ?d3 ?d4 ?d5)
      case d1 => rw [List.length_map]; exact (Nat.min_eq_left (by omega)).symm
      case d2 => intro h0; exact HRD.out.at_ (by simpa using h0)
      case d3 => have h1 := HF1.out.1; have h2 := HF1.out.2.1; simp [wv_size, h1, h2]; omega
      case d4 => intro v hv; obtain ⟨x, _, rfl⟩ := List.mem_map.1 hv; rfl
      intro w3 h3 hg3
      have HF3 := Lib.hid (HF1.out.copy0 (r := r) (by omega) h3)
      have HG3 := Lib.hid (grown_trans HGR.out hg3)
      clear h3 hg3
      have h72 := HF3.out.used
      have f72 := HF3.out.frozen 72
      go_wp2_with fail
      go_end0
      exact ⟨rfl, HM.fill (HF3.out.setUsed _) rfl HSZ.out (by have := HQ.out; have := HPL.out; have h := HRR.out; rw [h, List.length_drop]; simp; omega) (by omega) HD.out (splice0_take _ _), grown_set HG3.out 72 _⟩
theorem write_any (R : Nat) (m : List UInt8) (a : Option Addr) (cap : Nat) (l : List UInt8) (w : World) (hT : Tab w) (hR : 5 ≤ R) (h : HM w R m) (hl : RdX R w a l) (hcap : l.length ≤ cap) (hc2 : cap ≤ maxLen) (hn : m.length + l.length ≤ 1152921504606846976) :
    Calls Tryz.prog 114 #[.pointer (some ⟨R, 0, none⟩), .slice a l.length cap] w fun e w' => e = .returned (.tuple #[]) ∧ HM w' R (m ++ l) ∧ w.grownBy w' (some R) := by
  rcases Nat.eq_zero_or_pos (m.length % 64) with hu | hu
  · exact write_zero R m a cap l w hT hR h hu hl hcap hc2 hn
  · by_cases h64 : m.length % 64 + l.length < 64
    · exact write_some R _ m a cap l w hR h rfl hu hl h64 hcap hc2 hn
    · have e : (l.take (64 - m.length % 64)).length = 64 - m.length % 64 := by rw [List.length_take]; omega
      exact write_fill R _ m (l.take (64 - m.length % 64)) a cap l w hT hR h rfl hu hl (by omega) (by omega) (by rw [e]) hcap hc2 hn
end Go.Proofs.YteigldfdaciopaaGreatDoor

namespace Go.Proofs.YteigldfdaciopaaGreatDoor
open Go.RowKit

/-- An array of bytes. -/
def bvA (l : List UInt8) : Array Value := (l.map bv).toArray
/-- Block g is just the bytes l. -/
def BB (w : World) (g : Nat) (T : TypeId) (l : List UInt8) : Prop := w.heap[g]? = some (.cells (bvA l) T (0, 0))
theorem bvA_size (l : List UInt8) : (bvA l).size = l.length := by simp [bvA]
theorem bvA_get (l : List UInt8) (i : Nat) (h : i < l.length) : (bvA l)[i]? = some (bv l[i]) := by simp [bvA, h]
theorem bvA_set (l : List UInt8) (i : Nat) (c : UInt8) : (bvA l).setIfInBounds i (bv c) = bvA (l.set i c) := by
  apply Array.ext'
  simp [bvA, List.map_set]
theorem bvA_one (l : List UInt8) : (bvA l).all (·.oneCell') = true := by
  rw [Array.all_eq_true_iff_forall_mem]; intro v hv
  obtain ⟨x, _, rfl⟩ := by simpa [bvA] using hv
  rfl
theorem BB.lt {w : World} {g : Nat} {T : TypeId} {l : List UInt8} (h : BB w g T l) : g < w.heap.size := (Array.getElem?_eq_some_iff.1 h).1
theorem BB.cell {w : World} {g : Nat} {T : TypeId} {l : List UInt8} (h : BB w g T l) (i : Nat) (hi : i < l.length) : w.cell? ⟨g, i, none⟩ = some (bv l[i]) := by
  rw [cell_of_row w g i _ T (0, 0) h, bvA_get l i hi]
theorem BB.frozen {w : World} {g : Nat} {T : TypeId} {l : List UInt8} (h : BB w g T l) (i : Nat) : w.frozen? ⟨g, i, none⟩ = false := frozen_of_row w g i _ T h
theorem BB.drew {w : World} {g : Nat} {T : TypeId} {l : List UInt8} (h : BB w g T l) : BB w.drew g T l := h
theorem BB.drewN {w : World} {g : Nat} {T : TypeId} {l : List UInt8} (h : BB w g T l) (n : Nat) : BB (w.drewN n) g T l := h
theorem BB.set_ {w : World} {g : Nat} {T : TypeId} {l : List UInt8} (h : BB w g T l) (i : Nat) (c : UInt8) : BB (w.setCell ⟨g, i, none⟩ (bv c)) g T (l.set i c) := by
  unfold BB; rw [heap_setCell_same w g i _ T _ h, bvA_set]
theorem BB.setO {w : World} {g : Nat} {T : TypeId} {l : List UInt8} (h : BB w g T l) {g' : Nat} (hne : g ≠ g') (i : Nat) (v : Value) : BB (w.setCell ⟨g', i, none⟩ v) g T l := (heap_setCell_other w ⟨g', i, none⟩ g v hne).trans h
theorem BB.new (w : World) (T : TypeId) (l : List UInt8) : BB (w.alloc (.cells (bvA l) T)) w.heap.size T l := heap_alloc_new w _
theorem BB.alloc {w : World} {g : Nat} {T : TypeId} {l : List UInt8} (h : BB w g T l) (o : Obj) : BB (w.alloc o) g T l := (Below.heap_alloc w o g h.lt).trans h
theorem BB.grown {w w' : World} {g R : Nat} {T : TypeId} {l : List UInt8} (h : BB w g T l) (hg : w.grownBy w' (some R)) (hne : g ≠ R) : BB w' g T l := (hg.block g h.lt (fun e => hne (by injection e))).trans h
theorem BB.below {B : Nat} {w w' : World} {g : Nat} {T : TypeId} {l : List UInt8} (h : BB w g T l) (hb : Below B w w') (hg : g < B) : BB w' g T l := (hb.block g hg).trans h
theorem BB.rd {w : World} {R g : Nat} {T : TypeId} {l : List UInt8} (h : BB w g T l) (hne : g ≠ R) (hl : l.length ≤ maxLen) (n : Nat) : RdX R w (some ⟨g, 0, none⟩) (l.take n) := by
  refine ⟨by rw [List.length_take]; omega, .inr ⟨g, 0, rfl, h.lt, hne, fun j hj => ?_⟩⟩
  rw [List.length_take] at hj
  rw [Nat.zero_add, h.cell j (by omega), List.getElem_take]

theorem HM.below {B : Nat} {w w' : World} {R : Nat} {m : List UInt8} (h : HM w R m) (hb : Below B w w') (hR : R < B) : HM w' R m := by
  obtain ⟨part, hf, hp⟩ := h
  exact ⟨part, hf.below hb hR, hp⟩
/-- Byte i of the number of bits of n bytes. -/
def szB (n i : Nat) : UInt8 := UInt8.ofNat (8 * n / 2 ^ (8 * (7 - i)))
theorem bv_szB (len k : Nat) : Value.int .u8 (8 * (len : Int) / 2 ^ (8 * (7 - k)) % 256) = bv (szB len k) := by
  unfold bv szB
  rw [UInt8.toNat_ofNat']
  simp
/-- The padding's array when k bytes of the number of bits, from place n on, have been written. -/
def padA (n k len : Nat) : List UInt8 := (List.range 72).map fun j => if j = 0 then 128 else if n ≤ j ∧ j < n + k then szB len (j - n) else 0
theorem padA_len (n k len : Nat) : (padA n k len).length = 72 := by simp [padA]
theorem padA_set (n k len : Nat) (hn : 1 ≤ n) : (padA n k len).set (n + k) (szB len k) = padA n (k + 1) len := by
  apply List.ext_getElem
  · simp [padA]
  · intro i h1 h2
    rw [List.getElem_set]
    simp only [padA, List.getElem_map, List.getElem_range]
    by_cases e : n + k = i
    · subst e; rw [if_pos rfl, if_neg (by omega), if_pos (by omega)]; congr 1; omega
    · rw [if_neg e]
      by_cases h0 : i = 0
      · rw [if_pos h0, if_pos h0]
      · rw [if_neg h0, if_neg h0]
        by_cases h : n ≤ i ∧ i < n + k
        · rw [if_pos h, if_pos (by omega)]
        · rw [if_neg h, if_neg (by omega)]
theorem padA_zero (n len : Nat) : (bvA (List.replicate 72 0)).setIfInBounds 0 (.int .u8 128) = bvA (padA n 0 len) := by
  have h : (Value.int .u8 128) = bv 128 := rfl
  rw [h, bvA_set]
  congr 1
  apply List.ext_getElem
  · simp [padA]
  · intro i h1 h2
    rw [List.getElem_set]
    simp only [padA, List.getElem_map, List.getElem_range, List.getElem_replicate]
    by_cases e : 0 = i
    · subst e; rfl
    · rw [if_neg e, if_neg (by omega), if_neg (by omega)]
/-- How many bytes come before the number of bits. -/
def padN (len : Nat) : Nat := 64 - (len % 64 + 8) % 64
/-- What follows the bytes. -/
def padB (len : Nat) : List UInt8 := (padA (padN len) 8 len).take (padN len + 8)
theorem padN_bd (len : Nat) : 1 ≤ padN len ∧ padN len ≤ 64 := by unfold padN; omega
theorem padB_len (len : Nat) : (padB len).length = padN len + 8 := by
  have := padN_bd len
  unfold padB; rw [List.length_take, padA_len]; omega
theorem pad_mod (len : Nat) : (len + (padN len + 8)) % 64 = 0 := by unfold padN; omega
/-- Byte j of a state. -/
def outB (st : List Nat) (j : Nat) : UInt8 := UInt8.ofNat (st.getD (j / 4) 0 / 2 ^ (8 * (3 - j % 4)))
theorem bv_outB (st : List Nat) (k : Nat) : Value.int .u8 (((st.getD (k / 4) 0 : Nat) : Int) / 2 ^ (8 * (3 - k % 4)) % 256) = bv (outB st k) := by
  unfold bv outB
  rw [UInt8.toNat_ofNat']
  simp
def outTo (st : List Nat) (k : Nat) : List UInt8 := (List.range 32).map fun j => if j < k then outB st j else 0
theorem outTo_len (st : List Nat) (k : Nat) : (outTo st k).length = 32 := by simp [outTo]
theorem outTo_set (st : List Nat) (k : Nat) : (outTo st k).set k (outB st k) = outTo st (k + 1) := by
  apply List.ext_getElem
  · simp [outTo]
  · intro i h1 h2
    rw [List.getElem_set]
    simp only [outTo, List.getElem_map, List.getElem_range]
    by_cases e : k = i
    · subst e; rw [if_pos rfl, if_pos (by omega)]
    · rw [if_neg e]
      by_cases h : i < k
      · rw [if_pos h, if_pos (by omega)]
      · rw [if_neg h, if_neg (by omega)]
/-- The state behind whole blocks. -/
def stOf (m : List UInt8) : List Nat := stN m (m.length / 64)
/-- SHA-256. -/
def sha (m : List UInt8) : List UInt8 := outTo (stOf (m ++ padB m.length)) 32
theorem sha_len (m : List UInt8) : (sha m).length = 32 := outTo_len _ _

theorem grown_setNew {R g : Nat} {w w2 : World} (h : w.grownBy w2 (some R)) (hg : w.heap.size ≤ g) (i : Nat) (v : Value) : w.grownBy (w2.setCell ⟨g, i, none⟩ v) (some R) :=
  ⟨h.os, h.tape, h.output, by simpa using h.size, fun k hk hn => by rw [heap_setCell_other _ _ _ _ (by show k ≠ g; omega)]; exact h.block k hk hn⟩
theorem grown_rowNew {R g : Nat} {w w2 w3 : World} (h : w.grownBy w2 (some R)) (k : w2.grownBy w3 (some g)) (hg : w.heap.size ≤ g) : w.grownBy w3 (some R) :=
  ⟨k.os.trans h.os, k.tape.trans h.tape, k.output.trans h.output, Nat.le_trans h.size k.size, fun i hi hn => by rw [k.block i (Nat.lt_of_lt_of_le hi h.size) (fun e => by injection e with e; omega)]; exact h.block i hi hn⟩
set_option maxRecDepth 100000 in
/-- padding[:n + 8]. -/
theorem slice_pad (g n : Nat) (h : n ≤ 64) (W : World) : (Instr.sliceAt 139 (.pointer (some ⟨g, 0, none⟩)) none (some (.int .i64 ((n : Int) + 8))) none).run Tryz.prog W = .ok (.slice (some ⟨g, 0, none⟩) (n + 8) 72) W := by
  have h1 : (Instr.sliceAt 139 (.pointer (some ⟨g, 0, none⟩)) none (some (.int .i64 ((n : Int) + 8))) none).run Tryz.prog W = _ := run_sliceAt_array_h (P := Tryz.prog) W 139 ⟨g, 0, none⟩ (by kernel_rfl) .i64 ((n : Int) + 8) (by omega) (by show (n : Int) + 8 ≤ ((72 : Nat) : Int); omega)
  rw [h1]
  have hz : (sizeOf (Tryz.prog.elem 139)).run Tryz.prog W = .ok 1 W := by kernel_rfl
  have hz2 : Tryz.prog.arrayLen 139 = 72 := by kernel_rfl
  rw [hz, hz2]
  have e : ((n : Int) + 8).toNat = n + 8 := by omega
  simp [Result.andThen, slicedAt, e, Addr.add]
/-- A composite literal whose value is known. -/
theorem wpList_built {P : Program} {w : World} {ops : Array Oper} {rest : List Oper} {o : Oper} {a : Act} {Q : Exit → Act → World → Prop} (hg : o.guard = none) (t : TypeId) (parts : Array (Nat × Operand)) (ho : o.op = .build t parts)
    (vals : List (Nat × Value)) (hv : (parts.map fun (i, x) => (i, a.eval x)).toList = vals) (cells : Array Value) (hc : P.built t vals = some cells) (h : wpList P ops Q rest (a.put o.dst (.agg cells)) w) : wpList P ops Q (o :: rest) a w := by
  refine wpList_build hg t parts ho ?_ ?_
  · rw [hv, hc]; rfl
  · rw [hv, hc]; exact h

/-- A value stored into a whole block; the world behind it gets a name of its own. -/
theorem wpList_storeA {P : Program} {w : World} {ops : Array Oper} {rest : List Oper} {o : Oper} {a : Act} {Q : Exit → Act → World → Prop} (hgd : o.guard = none) (ty : TypeId) (x y : Operand) (ho : o.op = .store ty x y)
    (g : Nat) (cells : Array Value) (hx : a.eval x = .pointer (some ⟨g, 0, none⟩)) (hy : a.eval y = .agg cells)
    (t : TypeId) (old : Array Value) (hg : w.heap[g]? = some (.cells old t (0, 0))) (hi : (P.info? ty).map (·.size) = some cells.size)
    (hold : old.size = cells.size) (h1 : cells.all (·.oneCell') = true)
    (h : ∀ w', w'.heap[g]? = some (.cells cells t (0, 0)) → w.grownBy w' (some g) → wpList P ops Q rest (a.put o.dst undef) w') : wpList P ops Q (o :: rest) a w :=
  wpList_store_row hgd ty x y ho g cells hx hy t old hg hi hold h1 (h _ (setRow_heap w g _ _ t _ hg) ⟨rfl, rfl, rfl, by simp [World.setRow], fun k hk hn => setRow_other w g k _ (fun e => hn (by rw [e]))⟩)

/-- The cells of a new hasher. -/
def hash0 : Array Value := ((wv hNums).toList ++ ((List.replicate 64 (0 : UInt8)).map bv ++ [Value.int .i64 0, Value.int .u64 0])).toArray
theorem hash0_one : hash0.all (·.oneCell') = true := by kernel_rfl
theorem newHasher_any (w : World) (hT : Tab w) : Calls Tryz.prog 113 #[] w fun e w' => e = .returned (.agg hash0) ∧ Below w.heap.size w w' := by
  obtain ⟨Z, hZ⟩ : ∃ Z, Z = hash0 := ⟨_, rfl⟩
  have hbt : Tryz.prog.built 121 [(0, .agg (wv hNums))] = some Z := by rw [hZ]; kernel_rfl
  have HBT := Lib.hid hbt
  obtain ⟨Z0, hZ0⟩ : ∃ Z0, Z0 = ((List.replicate 8 (Value.int .u32 0)) ++ ((List.replicate 64 (0 : UInt8)).map bv ++ [Value.int .i64 0, Value.int .u64 0])).toArray := ⟨_, rfl⟩
  have hz := fun W : World => (by rw [hZ0]; kernel_rfl : (zeroValue 121).run Tryz.prog W = .ok (.agg Z0) W)
  have HZP : Hid (Z0.size = Z.size) := by show _ = _; rw [hZ, hZ0]; decide
  have HSZ : Hid ((Tryz.prog.info? 121).map (·.size) = some Z.size) := by show _ = _; rw [hZ]; kernel_rfl
  have HONE : Hid (Z.all (·.oneCell') = true) := by show _ = _; rw [hZ]; exact hash0_one
  have hsz8 : (Tryz.prog.info? 110).map (·.size) = some (wv hNums).toList.length := by kernel_rfl
  have HT := Lib.hid (hT.below ((Below.refl w.heap.size w).alloc (Nat.le_refl _) (.cells Z0 121)) hT.lt).2
  have HSZ8 := Lib.hid hsz8
  have HU8 := Lib.hid Tryz.underlying110
  have HZ := Lib.hid hZ
  clear hT hZ hbt hZ0 hsz8
  have hud : Tryz.prog.underlying 121 = _ := Tryz.underlying121
  have HUD := Lib.hid hud
  clear hud
  go_enter Tryz.func113, Tryz.ntmps113
  go_wp2_with (first | (refine wpList_load_mid rfl 110 (.global 3) rfl 3 0 rfl (wv hNums).toList _ HT.out HU8.out rfl HSZ8.out ?_) | (refine wpList_built rfl 121 #[(0, .tmp 1)] rfl [(0, .agg (wv hNums))] ?_ Z HBT.out ?_) | (refine wpList_storeA rfl 121 (.tmp 0) (.tmp 2) rfl w.heap.size Z rfl rfl 121 _ (heap_alloc_new w _) HSZ.out HZP.out HONE.out ?_))
  intro w4 h4 hg4
  go_wp2_with fail
  have hB := grown_below ((Below.refl w.heap.size w).alloc (Nat.le_refl _) _) hg4 (Nat.le_refl _) (by simp)
  refine bodyPost_ret (v := .agg hash0) ?_ rfl ⟨rfl, hB⟩
  rw [HZ.out] at h4 HSZ
  exact results_cell_row rfl _ _ w.heap.size 121 _ (0, 0) _ rfl h4 HUD.out rfl HSZ.out

set_option maxRecDepth 100000 in
set_option maxHeartbeats 1600000 in
theorem end_any (R : Nat) (m : List UInt8) (w : World) (hT : Tab w) (hR : 5 ≤ R) (h : HM w R m) (hn : m.length ≤ 1152921504606846000) :
    Calls Tryz.prog 115 #[.pointer (some ⟨R, 0, none⟩)] w fun e w' => e = .returned (.agg (bvA (sha m))) ∧ w.grownBy w' (some R) := by
  have HT := Lib.hid hT
  have HH := Lib.hid h
  obtain ⟨part, hf, hpt⟩ := h
  have h72 := hf.used
  have h73 := hf.size
  have hlt := hf.lt
  obtain ⟨u, hu⟩ : ∃ u, u = m.length % 64 := ⟨_, rfl⟩
  have hu64 : u < 64 := by omega
  rw [← hu] at h72
  obtain ⟨n, hn⟩ : ∃ n, n = padN m.length := ⟨_, rfl⟩
  have HN := Lib.hid hn
  have HNU : Hid (64 - (u + 8) % 64 = n) := by show _ = _; rw [hn, hu]; rfl
  have hn1 := padN_bd m.length
  rw [← hn] at hn1
  obtain ⟨hn1, hn2⟩ := hn1
  have HU := Lib.hid hu
  clear hn hu hf hpt part hT
  obtain ⟨PA, hPA⟩ : ∃ PA, PA = bvA (padA n 0 m.length) := ⟨_, rfl⟩
  have hbt : Tryz.prog.built 139 [(0, .int .u8 128)] = some PA := by rw [hPA, ← padA_zero]; kernel_rfl
  have HPA := Lib.hid hPA
  have HBT := Lib.hid hbt
  have HSZ72 : Hid ((Tryz.prog.info? 139).map (·.size) = some PA.size) := by show _ = _; rw [hPA, bvA_size, padA_len]; kernel_rfl
  have HONE : Hid (PA.all (·.oneCell') = true) := by show _ = _; rw [hPA]; exact bvA_one _
  obtain ⟨Z, hZ⟩ : ∃ Z, Z = bvA (List.replicate 72 0) := ⟨_, rfl⟩
  have hz := fun W : World => (by rw [hZ]; kernel_rfl : (zeroValue 139).run Tryz.prog W = .ok (.agg Z) W)
  have HZP : Hid (Z.size = PA.size) := by show _ = _; rw [hZ, hPA, bvA_size, bvA_size, padA_len]; decide
  clear hbt hPA hZ
  go_enter Tryz.func115, Tryz.ntmps115
  go_wp2_with (first | (refine wpList_built rfl 139 #[(0, .const (.int .u8 128))] rfl [(0, .int .u8 128)] ?_ PA HBT.out ?_) | (refine wpList_storeA rfl 139 (.tmp 3) (.tmp 8) rfl (w.heap.size + 1) PA rfl rfl 139 _ (heap_alloc2_new w _ _) HSZ72.out HZP.out HONE.out ?_))
  intro w2 h2 hg2
  have hB2 : Below w.heap.size w w2 := by
    refine grown_below (((Below.refl _ _).alloc (Nat.le_refl _) _).alloc (by simp) _) hg2 (Nat.le_succ _) (by simp; omega)
  have hO : BB w2 w.heap.size 69 (List.replicate 32 0) := by
    refine (hg2.block w.heap.size (by simp; omega) (fun e => by injection e with e; omega)).trans ?_
    exact heap_alloc2_old w _ _
  rw [HPA.out] at h2
  have HP2 : Hid (BB w2 (w.heap.size + 1) 139 (padA n 0 m.length)) := Lib.hid h2
  have HO2 := Lib.hid hO
  have HH2 := Lib.hid (HH.out.below hB2 hlt)
  have HB2 := Lib.hid hB2
  have hz2 : w.heap.size + 1 < w2.heap.size := HP2.out.lt
  have g72 := (hB2.cell (p := ⟨R, 72, none⟩) hlt).trans h72
  have g73 := (hB2.cell (p := ⟨R, 73, none⟩) hlt).trans h73
  have hNU : (64 : Int) - ((u : Int) + 8) % 64 = (n : Int) := by have := HNU.out; omega
  clear h2 hg2 hB2 hO h72 h73 HBT HSZ72 HONE hz HZP HPA
  go_wp2_with fail
  clear g72 g73 hNU
  go_loopw [21] (fun i wr => ∃ k : Nat, k ≤ 8 ∧ i = .int .i64 k ∧ BB wr (w.heap.size + 1) 139 (padA n k m.length) ∧ BB wr w.heap.size 69 (List.replicate 32 0) ∧ HM wr R m ∧ Below w.heap.size w wr) (fun i _ => 8 - (intOf i).toNat)
  case atStart => exact ⟨0, by omega, rfl, HP2.out, HO2.out, HH2.out, HB2.out⟩
  case round =>
    clear HP2 HO2 HH2 HB2 hz2
    obtain ⟨k, hk, rfl, hp, ho, hm, hb⟩ := hrel
    have HP := Lib.hid hp
    have HO := Lib.hid ho
    have HM' := Lib.hid hm
    have HB := Lib.hid hb
    clear hp ho hm hb
    by_cases hlt8 : k < 8
    · have cf := HP.out.frozen (n + k)
      have ck := HP.out.cell (n + k) (by rw [padA_len]; omega)
      generalize hx : (padA n k m.length)[n + k]'(by rw [padA_len]; omega) = xk at ck
      clear hx
      have HX := Lib.hid (padA_set n k m.length hn1)
      go_wp2_with fail
      go_roundw
      case rel =>
        refine ⟨k + 1, by omega, by go_num, ?_, HO.out.setO (by omega) _ _, HM'.out.below ((Below.refl _ _).setCell (Nat.le_succ _) _) hlt, HB.out.setCell (Nat.le_succ _) _⟩
        rw [bv_szB, ← HX.out]
        exact HP.out.set_ _ _
      case measure => simp [intOf]; omega
    · obtain rfl : k = 8 := by omega
      have hw := write_any R m (some ⟨w.heap.size + 1, 0, none⟩) 72 (padB m.length) wr (HT.out.below HB.out HT.out.lt) hR HM'.out (by unfold padB; rw [← HN.out]; exact HP.out.rd (by omega) (by rw [padA_len]; unfold maxLen; omega) _) (by rw [padB_len, ← HN.out]; omega) (by unfold maxLen; omega) (by rw [padB_len, ← HN.out]; omega)
      rw [padB_len, ← HN.out] at hw
      have HW := Lib.hid hw
      clear hw
      have hsp := slice_pad (w.heap.size + 1) n hn2
      go_wp2_with fail
      refine HW.out.mono ?_
      rintro e w3 ⟨rfl, hm3, hg3⟩
      have hBB3 := HO.out.grown hg3 (by omega)
      have hG3 := grown_trans ⟨HB.out.os, HB.out.tape, HB.out.output, HB.out.size, fun k hk _ => HB.out.block k hk⟩ hg3
      obtain ⟨st, hst⟩ : ∃ st, st = stOf (m ++ padB m.length) := ⟨_, rfl⟩
      have hR3 : ∃ rest, HR w3 R st rest := by
        obtain ⟨part, hf, _⟩ := hm3
        rw [hst]; exact ⟨_, hf.2⟩
      have HST := Lib.hid hst
      have HBB3 := Lib.hid hBB3
      have HG3 := Lib.hid hG3
      have HR3 := Lib.hid hR3
      clear hm3 hg3 hBB3 hG3 hst hR3 HW HP HO HM' HB
      go_wp2_with fail
      go_loopw [40] (fun i wr => ∃ k : Nat, k ≤ 32 ∧ i = .int .i64 k ∧ BB wr w.heap.size 69 (outTo st k) ∧ (∃ rest, HR wr R st rest) ∧ w.grownBy wr (some R)) (fun i _ => 32 - (intOf i).toNat)
      case atStart => exact ⟨0, by omega, rfl, HBB3.out, HR3.out, HG3.out⟩
      case round =>
        clear HBB3 HR3 HG3
        obtain ⟨k, hk, rfl, ho, ⟨rest, hr⟩, hg⟩ := hrel
        have HO := Lib.hid ho
        have HRR := Lib.hid hr
        have HG := Lib.hid hg
        clear ho hr hg
        by_cases hlt32 : k < 32
        · have cf := HO.out.frozen k
          have ck := HO.out.cell k (by rw [outTo_len]; omega)
          have cr := HRR.out.cell (k / 4) (by omega)
          have HX := Lib.hid (outTo_set st k)
          have HV := Lib.hid (bv_outB st k)
          generalize st.getD (k / 4) 0 = yk at cr HV
          generalize hx : (outTo st k)[k]'(by rw [outTo_len]; omega) = xk at ck
          clear hx
          go_wp2_with fail
          go_roundw
          case rel =>
            refine ⟨k + 1, by omega, by go_num, ?_, ⟨rest, HRR.out.below ((Below.refl _ _).setCell (Nat.le_refl _) _) hlt⟩, ?_⟩
            · rw [HV.out, ← HX.out]
              exact HO.out.set_ _ _
            · exact grown_setNew HG.out (Nat.le_refl _) _ _
          case measure => simp [intOf]; omega
        · obtain rfl : k = 32 := by omega
          have hsz : (Tryz.prog.info? 69).map (·.size) = some (bvA (outTo st 32)).size := by rw [bvA_size, outTo_len]; kernel_rfl
          go_wp2_with (first | (refine wpList_load_row rfl 69 (.tmp 2) rfl w.heap.size rfl _ (bvA (outTo st 32)) (0, 0) _ HO.out Tryz.underlying69 rfl hsz ?_) | (refine wpList_storeA rfl 69 (.tmp 2) (.tmp 59) rfl w.heap.size (bvA (outTo st 32)) rfl rfl _ _ HO.out hsz rfl (bvA_one _) ?_))
          intro w4 h4 hg4
          have hS : sha m = outTo st 32 := by rw [HST.out]; rfl
          go_wp2_with fail
          refine bodyPost_ret (v := .agg (bvA (sha m))) ?_ rfl ⟨rfl, grown_rowNew HG.out hg4 (Nat.le_refl _)⟩
          rw [hS]
          exact results_cell_row rfl _ _ w.heap.size 69 _ (0, 0) _ rfl h4 Tryz.underlying69 rfl hsz
end Go.Proofs.YteigldfdaciopaaGreatDoor

namespace Go.Proofs.YteigldfdaciopaaGreatDoor
open Go.RowKit

theorem HM.init {w : World} {R : Nat} (h : w.heap[R]? = some (.cells hash0 121 (0, 0))) : HM w R [] :=
  ⟨List.replicate 64 0, ⟨by simp, rfl, h⟩, rfl⟩
theorem RdB.rdX {B R : Nat} {w w' : World} {a : Option Addr} {l : List UInt8} (h : RdB B w a l) (hb : Below B w w') (hB : B ≤ w'.heap.size) (hR : B ≤ R) : RdX R w' a l := by
  refine ⟨h.1, ?_⟩
  rcases h.2 with h2 | ⟨b, o, ha, hlt, hc⟩
  · exact .inl h2
  · exact .inr ⟨b, o, ha, by omega, by omega, fun j hj => (hb.cell (p := ⟨b, o + j, none⟩) hlt).trans (hc j hj)⟩
theorem sha_size : (Tryz.prog.info? 69).map (·.size) = some 32 := by kernel_rfl

set_option maxRecDepth 100000 in
set_option maxHeartbeats 800000 in
theorem sum_any (a : Option Addr) (cap : Nat) (l : List UInt8) (w : World) (hT : Tab w) (hl : RdB w.heap.size w a l) (hcap : l.length ≤ cap) (hc2 : cap ≤ maxLen) (hn : l.length ≤ 1152921504606846000) :
    Calls Tryz.prog 112 #[.slice a l.length cap] w fun e w' => e = .returned (.agg (bvA (sha l))) ∧ Below w.heap.size w w' := by
  have h0 : 5 ≤ w.heap.size := hT.lt
  have HT := Lib.hid hT
  have HL := Lib.hid hl
  clear hT hl
  obtain ⟨Z0, hZ0⟩ : ∃ Z0, Z0 = ((List.replicate 8 (Value.int .u32 0)) ++ ((List.replicate 64 (0 : UInt8)).map bv ++ [Value.int .i64 0, Value.int .u64 0])).toArray := ⟨_, rfl⟩
  have hz := fun W : World => (by rw [hZ0]; kernel_rfl : (zeroValue 121).run Tryz.prog W = .ok (.agg Z0) W)
  have HZP : Hid (Z0.size = hash0.size) := by show _ = _; rw [hZ0]; decide
  have HSZ : Hid ((Tryz.prog.info? 121).map (·.size) = some hash0.size) := by show _ = _; kernel_rfl
  have HUD : Hid (Tryz.prog.underlying 69 = _) := Lib.hid Tryz.underlying69
  clear hZ0
  go_enter Tryz.func112, Tryz.ntmps112
  go_wp2_with fail
  obtain ⟨w1, hw1⟩ : ∃ w1, w1 = w.alloc (.cells (bvA (List.replicate 32 0)) 69) := ⟨_, rfl⟩
  have hB1 : Below w.heap.size w w1 := hw1 ▸ (Below.refl _ _).alloc (Nat.le_refl _) _
  have hD1 : BB w1 w.heap.size 69 (List.replicate 32 0) := hw1 ▸ BB.new w _ _
  change Calls _ _ _ (w.alloc (.cells (bvA (List.replicate 32 0)) 69)) _
  rw [← hw1]
  clear hw1
  refine (newHasher_any w1 (HT.out.below hB1 h0)).mono ?_
  rintro e w2 ⟨rfl, hb2⟩
  have hD2 := hD1.below hb2 hD1.lt
  have hB2 := hB1.trans (hb2.mono hB1.size)
  have HD2 := Lib.hid hD2
  have HB2 := Lib.hid hB2
  clear hD1 hD2 hB1 hB2 hb2
  go_wp2_with (refine wpList_storeA rfl 121 (.tmp 3) (.tmp 4) rfl w2.heap.size hash0 rfl rfl 121 _ (heap_alloc_new w2 _) HSZ.out HZP.out hash0_one ?_)
  intro w3 h3 hg3
  have hlt2 := HD2.out.lt
  have hB3 : Below w2.heap.size w2 w3 := grown_below ((Below.refl _ _).alloc (Nat.le_refl _) _) hg3 (Nat.le_refl _) (by simp)
  have HD3 := Lib.hid (HD2.out.below hB3 hlt2)
  have HB3 := Lib.hid (HB2.out.trans (hB3.mono HB2.out.size))
  have HM3 := Lib.hid (HM.init h3)
  have hs3 : w2.heap.size < w3.heap.size := HM3.out.lt
  clear h3 hg3 hB3 HD2
  go_wp2_with fail
  have hle := HB2.out.size
  refine (write_any w2.heap.size [] a cap l w3 (HT.out.below HB3.out h0) (by omega) HM3.out (HL.out.rdX HB3.out (by omega) (by omega)) hcap hc2 (by simp; omega)).mono ?_
  rintro e w4 ⟨rfl, hm4, hg4⟩
  rw [List.nil_append] at hm4
  have HM4 := Lib.hid hm4
  have HD4 := Lib.hid (HD3.out.grown hg4 (by omega))
  have HB4 := Lib.hid (grown_below HB3.out hg4 (by omega) (by omega))
  have hs4 := hg4.size
  clear hm4 hg4 HM3 HD3 HB3
  go_wp2_with fail
  refine (end_any w2.heap.size l w4 (HT.out.below HB4.out h0) (by omega) HM4.out hn).mono ?_
  rintro e w5 ⟨rfl, hg5⟩
  have HD5 := Lib.hid (HD4.out.grown hg5 (by omega))
  have HB5 := Lib.hid (grown_below HB4.out hg5 (by omega) (by omega))
  clear hg5 HM4 HD4 HB4
  have HSD : Hid ((Tryz.prog.info? 69).map (·.size) = some (bvA (sha l)).size) := by show _ = _; rw [bvA_size, sha_len]; exact sha_size
  have HOD : Hid ((bvA (List.replicate 32 0)).size = (bvA (sha l)).size) := by show _ = _; rw [bvA_size, bvA_size, sha_len, List.length_replicate]
  go_wp2_with (refine wpList_storeA rfl 69 (.tmp 2) (.tmp 7) rfl w.heap.size (bvA (sha l)) rfl rfl 69 _ HD5.out HSD.out HOD.out (bvA_one _) ?_)
  intro w6 h6 hg6
  have hB6 := grown_below HB5.out hg6 (Nat.le_refl _) HB5.out.size
  go_wp2_with fail
  refine bodyPost_ret (v := .agg (bvA (sha l))) ?_ rfl ⟨rfl, hB6⟩
  exact results_cell_row rfl _ _ w.heap.size 69 _ (0, 0) _ rfl h6 HUD.out rfl HSD.out
end Go.Proofs.YteigldfdaciopaaGreatDoor

namespace Go.Proofs.YteigldfdaciopaaGreatDoor
open Go.RowKit

/-- The slice at a, of n elements, holds slices of bytes. -/
def RdBs (B : Nat) (w : World) (a : Option Addr) (ps : List (List UInt8)) : Prop :=
  ps.length ≤ maxLen ∧ (ps = [] ∨ ∃ b o, a = some ⟨b, o, none⟩ ∧ b < B ∧ ∀ j (h : j < ps.length), ∃ a' cap', w.cell? ⟨b, o + j, none⟩ = some (.slice a' ps[j].length cap') ∧ RdB B w a' ps[j] ∧ ps[j].length ≤ cap' ∧ cap' ≤ maxLen)
theorem RdBs.at_ {B : Nat} {w : World} {a : Option Addr} {ps : List (List UInt8)} (h : RdBs B w a ps) (hk : 0 < ps.length) : ∃ b o, a = some ⟨b, o, none⟩ ∧ b < B ∧ ∀ j (h : j < ps.length), ∃ a' cap', w.cell? ⟨b, o + j, none⟩ = some (.slice a' ps[j].length cap') ∧ RdB B w a' ps[j] ∧ ps[j].length ≤ cap' ∧ cap' ≤ maxLen := by
  rcases h.2 with h2 | h2
  · subst h2; simp at hk
  · exact h2

def tagS (tag : List UInt8) (m : List UInt8) : List UInt8 := sha (sha tag ++ m)
theorem tagS_len (tag m : List UInt8) : (tagS tag m).length = 32 := sha_len _
theorem below_bytesWorld (w : World) (e : TypeId) (s : ByteArray) : Below w.heap.size w (Lib.bytesWorld w e s) :=
  ⟨rfl, rfl, rfl, by rw [Lib.bytesWorld_size]; omega, fun k hk => Lib.bytesWorld_at_old w e s k hk⟩
theorem rd_bytesWorld (w : World) (e : TypeId) (s : ByteArray) (hs : s.size ≤ maxLen) : RdB (Lib.bytesWorld w e s).heap.size (Lib.bytesWorld w e s) (some ⟨w.heap.size, 0, none⟩) s.data.toList := by
  refine ⟨hs, .inr ⟨w.heap.size, 0, rfl, by rw [Lib.bytesWorld_size]; omega, fun j hj => ?_⟩⟩
  rw [Nat.zero_add, Lib.bytesWorld_cell w e s j hj]
  simp only [bv]
  congr 3
  rw [List.getD_eq_getElem?_getD, List.getElem?_eq_getElem hj]; rfl
theorem flat_snoc (ps : List (List UInt8)) (k : Nat) (h : k < ps.length) : (ps.take (k + 1)).flatten = (ps.take k).flatten ++ ps[k] := by
  rw [List.take_succ_eq_append_getElem h]; simp only [List.flatten_append, List.flatten_cons, List.flatten_nil, List.append_nil]
theorem flat_le (ps : List (List UInt8)) (k : Nat) : (ps.take k).flatten.length ≤ ps.flatten.length := by
  have h : ps.flatten = (ps.take k).flatten ++ (ps.drop k).flatten := by rw [← List.flatten_append, List.take_append_drop]
  rw [h, List.length_append]; omega

set_option maxRecDepth 100000 in
set_option maxHeartbeats 1600000 in
theorem tagged_any (s : ByteArray) (a : Option Addr) (cap : Nat) (ps : List (List UInt8)) (w : World) (hT : Tab w) (hl : RdBs w.heap.size w a ps) (hcap : ps.length ≤ cap) (hc2 : cap ≤ maxLen) (hs : s.size ≤ 1152921504606846000) (hn : ps.flatten.length ≤ 1152921504606840000) :
    Calls Tryz.prog 99 #[.string s, .slice a ps.length cap] w fun e w' => e = .returned (.agg (bvA (tagS s.data.toList ps.flatten))) ∧ Below w.heap.size w w' := by
  unfold maxLen at hc2
  have h0 : 5 ≤ w.heap.size := hT.lt
  have HT := Lib.hid hT
  have HL := Lib.hid hl
  clear hT hl
  obtain ⟨Z0, hZ0⟩ : ∃ Z0, Z0 = ((List.replicate 8 (Value.int .u32 0)) ++ ((List.replicate 64 (0 : UInt8)).map bv ++ [Value.int .i64 0, Value.int .u64 0])).toArray := ⟨_, rfl⟩
  have hz := fun W : World => (by rw [hZ0]; kernel_rfl : (zeroValue 121).run Tryz.prog W = .ok (.agg Z0) W)
  have HZP : Hid (Z0.size = hash0.size) := by show _ = _; rw [hZ0]; decide
  have HSZ : Hid ((Tryz.prog.info? 121).map (·.size) = some hash0.size) := by show _ = _; kernel_rfl
  have HUD : Hid (Tryz.prog.underlying 69 = _) := Lib.hid Tryz.underlying69
  have HSD : Hid (∀ m, (Tryz.prog.info? 69).map (·.size) = some (bvA (sha m)).size) := by show ∀ m, _ = _; intro m; rw [bvA_size, sha_len]; exact sha_size
  have HOD : Hid (∀ m, (bvA (List.replicate 32 0)).size = (bvA (sha m)).size) := by show ∀ m, _ = _; intro m; rw [bvA_size, bvA_size, sha_len, List.length_replicate]
  clear hZ0
  have hcv := fun W : World => Lib.run_convert_string_bytes (P := Tryz.prog) W 9 66 5 s Tryz.underlying9 Tryz.underlying66 Tryz.underlying5
  go_enter Tryz.func99, Tryz.ntmps99
  go_wp2_with fail
  obtain ⟨w1, hw1⟩ : ∃ w1, w1 = w.alloc (.cells (bvA (List.replicate 32 0)) 69) := ⟨_, rfl⟩
  have hB1 : Below w.heap.size w w1 := hw1 ▸ (Below.refl _ _).alloc (Nat.le_refl _) _
  have hD1 : BB w1 w.heap.size 69 (List.replicate 32 0) := hw1 ▸ BB.new w _ _
  have hs1 : w1.heap.size = w.heap.size + 1 := by rw [hw1]; simp
  change Calls _ _ #[.slice (some ⟨w.heap.size + 1, 0, none⟩) s.data.toList.length (grownCap (w.alloc (.cells (bvA (List.replicate 32 0)) 69)) s.size 0 5)] (Lib.bytesWorld (w.alloc (.cells (bvA (List.replicate 32 0)) 69)) 5 s) _
  rw [← hw1, ← hs1]
  have hB2 := hB1.trans ((below_bytesWorld w1 5 s).mono hB1.size)
  have hD2 := hD1.below (below_bytesWorld w1 5 s) hD1.lt
  refine (sum_any (some ⟨w1.heap.size, 0, none⟩) (grownCap w1 s.size 0 5) s.data.toList (Lib.bytesWorld w1 5 s) (HT.out.below hB2 h0) (rd_bytesWorld w1 5 s (by unfold maxLen; omega)) (grownCap_ge w1 s.size 0 _) (grownCap_le_maxLen w1 s.size 0 _ (by unfold maxLen; omega)) hs).mono ?_
  rintro e w2 ⟨rfl, hb2⟩
  have hsz2 : w1.heap.size < (Lib.bytesWorld w1 5 s).heap.size := by rw [Lib.bytesWorld_size]; omega
  have HD2 := Lib.hid (hD2.below hb2 hD2.lt)
  have HB2 := Lib.hid (hB2.trans (hb2.mono hB2.size))
  clear hB2 hD2 hb2 hsz2 hs1 hB1 hD1 hw1 hcv
  go_wp2_with (refine wpList_storeA rfl 69 (.tmp 5) (.tmp 11) rfl w2.heap.size (bvA (sha s.data.toList)) rfl rfl 69 (bvA (List.replicate 32 0)) (heap_alloc_new w2 _) (HSD.out _) (HOD.out _) (bvA_one _) ?_)
  intro w3 h3 hg3
  have hB3 : Below w2.heap.size w2 w3 := grown_below ((Below.refl _ _).alloc (Nat.le_refl _) _) hg3 (Nat.le_refl _) (by simp)
  have HT3 := Lib.hid (show BB w3 w2.heap.size 69 (sha s.data.toList) from h3)
  have HD3 := Lib.hid (HD2.out.below hB3 HD2.out.lt)
  have HB3 := Lib.hid (HB2.out.trans (hB3.mono HB2.out.size))
  have hlt3 := HT3.out.lt
  have hlt2 := HD2.out.lt
  clear h3 hg3 hB3 HD2 HB2
  go_wp2_with fail
  refine (newHasher_any w3 (HT.out.below HB3.out h0)).mono ?_
  rintro e w4 ⟨rfl, hb4⟩
  have HT4 := Lib.hid (HT3.out.below hb4 hlt3)
  have HD4 := Lib.hid (HD3.out.below hb4 (by omega))
  have HB4 := Lib.hid (HB3.out.trans (hb4.mono HB3.out.size))
  have hs4 := hb4.size
  clear hb4 HT3 HD3 HB3
  go_wp2_with (refine wpList_storeA rfl 121 (.tmp 6) (.tmp 12) rfl w4.heap.size hash0 rfl rfl 121 _ (heap_alloc_new w4 _) HSZ.out HZP.out hash0_one ?_)
  intro w5 h5 hg5
  have hB5 : Below w4.heap.size w4 w5 := grown_below ((Below.refl _ _).alloc (Nat.le_refl _) _) hg5 (Nat.le_refl _) (by simp)
  have HT5 := Lib.hid (HT4.out.below hB5 (by omega))
  have HD5 := Lib.hid (HD4.out.below hB5 (by omega))
  have HB5 := Lib.hid (HB4.out.trans (hB5.mono (by omega)))
  have HM5 := Lib.hid (HM.init h5)
  have hs5 := HM5.out.lt
  clear h5 hg5 hB5 HT4 HD4 HB4
  go_wp2_with fail
  have hw := write_any w4.heap.size [] (some ⟨w2.heap.size, 0, none⟩) 32 (sha s.data.toList) w5 (HT.out.below HB5.out h0) (by omega) HM5.out (by have h := HT5.out.rd (R := w4.heap.size) (by omega) (by rw [sha_len]; unfold maxLen; omega) 32; rwa [List.take_of_length_le (by rw [sha_len]; omega)] at h) (by rw [sha_len]; omega) (by unfold maxLen; omega) (by rw [sha_len]; simp)
  rw [sha_len, List.nil_append] at hw
  refine hw.mono ?_
  rintro e w6 ⟨rfl, hm6, hg6⟩
  clear hw
  have HM6 := Lib.hid hm6
  have HD6 := Lib.hid (HD5.out.grown hg6 (by omega))
  have HB6 := Lib.hid (grown_below HB5.out hg6 (by omega) (by omega))
  have hs6 := hg6.size
  clear hm6 hg6 HM5 HT5 HD5 HB5
  go_wp2_with fail
  go_loopw [17] (fun i wr => ∃ k : Nat, k ≤ ps.length ∧ i = .int .i64 k ∧ HM wr w4.heap.size (sha s.data.toList ++ (ps.take k).flatten) ∧ BB wr w.heap.size 69 (List.replicate 32 0) ∧ Below w.heap.size w wr) (fun i _ => ps.length - (intOf i).toNat)
  case atStart => exact ⟨0, by omega, rfl, by simpa using HM6.out, HD6.out, HB6.out⟩
  case round =>
    clear HM6 HD6 HB6
    obtain ⟨k, hk, rfl, hm, hd, hb⟩ := hrel
    have HMr := Lib.hid hm
    have HDr := Lib.hid hd
    have HBr := Lib.hid hb
    clear hm hd hb
    by_cases hlt : k < ps.length
    · obtain ⟨b, o, rfl, hbB, hcell⟩ := HL.out.at_ (by omega)
      obtain ⟨a', cap', hck, hrd, hc1, hc3⟩ := hcell k hlt
      have hck2 := (HBr.out.cell (p := ⟨b, o + k, none⟩) hbB).trans hck
      have hfl := flat_le ps (k + 1)
      have HF := Lib.hid (flat_snoc ps k hlt)
      have hfl2 : (ps.take k).flatten.length + ps[k].length ≤ ps.flatten.length := by rw [HF.out, List.length_append] at hfl; exact hfl
      have HRD := Lib.hid hrd
      clear hcell hck hrd hfl
      generalize ps[k] = pk at *
      go_wp2_with fail
      refine (write_any w4.heap.size _ a' cap' pk wr (HT.out.below HBr.out h0) (by omega) HMr.out (HRD.out.rdX HBr.out HBr.out.size (by omega)) hc1 hc3 (by rw [List.length_append, sha_len]; omega)).mono ?_
      rintro e w7 ⟨rfl, hm7, hg7⟩
      rw [List.append_assoc, ← HF.out] at hm7
      have HM7 := Lib.hid hm7
      have HD7 := Lib.hid (HDr.out.grown hg7 (by omega))
      have HB7 := Lib.hid (grown_below HBr.out hg7 (by omega) HBr.out.size)
      clear hm7 hg7
      go_wp2_with fail
      go_roundw
      case rel => exact ⟨k + 1, by omega, by go_num, HM7.out, HD7.out, HB7.out⟩
      case measure => simp [intOf]; omega
    · obtain rfl : k = ps.length := by omega
      have hmr := HMr.out
      rw [List.take_length] at hmr
      have hee := end_any w4.heap.size _ wr (HT.out.below HBr.out h0) (by omega) hmr (by rw [List.length_append, sha_len]; omega)
      have HE := Lib.hid hee
      clear hmr hee hlt
      go_wp2_with fail
      refine HE.out.mono ?_
      rintro e w8 ⟨rfl, hg8⟩
      have HD8 := Lib.hid (HDr.out.grown hg8 (by omega))
      have HB8 := Lib.hid (grown_below HBr.out hg8 (by omega) HBr.out.size)
      clear hg8
      go_wp2_with (refine wpList_storeA rfl 69 (.tmp 4) (.tmp 24) rfl w.heap.size (bvA (tagS s.data.toList ps.flatten)) rfl rfl 69 _ HD8.out (HSD.out _) (HOD.out _) (bvA_one _) ?_)
      intro w9 h9 hg9
      have hB9 := grown_below HB8.out hg9 (Nat.le_refl _) HB8.out.size
      go_wp2_with fail
      refine bodyPost_ret (v := .agg (bvA (tagS s.data.toList ps.flatten))) ?_ rfl ⟨rfl, hB9⟩
      exact results_cell_row rfl _ _ w.heap.size 69 _ (0, 0) _ rfl h9 HUD.out rfl (HSD.out _)
end Go.Proofs.YteigldfdaciopaaGreatDoor

namespace Go.Proofs.YteigldfdaciopaaGreatDoor
open Go.RowKit

theorem sha_sz (m : List UInt8) : (Tryz.prog.info? 69).map (·.size) = some (bvA (sha m)).size := by rw [bvA_size, sha_len]; exact sha_size
theorem sha_old (m : List UInt8) : (bvA (List.replicate 32 0)).size = (bvA (sha m)).size := by rw [bvA_size, bvA_size, sha_len, List.length_replicate]
theorem digest_und : Tryz.prog.underlying 69 = some (.array 32 5) := Tryz.underlying69
theorem RdB.below' {B : Nat} {w w' : World} {a : Option Addr} {l : List UInt8} (h : RdB w.heap.size w a l) (hb : Below B w w') (hB : B = w.heap.size) : RdB w'.heap.size w' a l := by
  subst hB
  exact (h.below hb).mono hb.size
theorem RdBs.one {w : World} {g : Nat} {a : Option Addr} {l : List UInt8} {cap : Nat} (hg : w.cell? ⟨g, 0, none⟩ = some (.slice a l.length cap)) (h : RdB w.heap.size w a l) (hc : l.length ≤ cap) (hm : cap ≤ maxLen) : RdBs w.heap.size w (some ⟨g, 0, none⟩) [l] := by
  refine ⟨by unfold maxLen; simp, .inr ⟨g, 0, rfl, World.block_lt_of_cell? w _ hg, fun j hj => ?_⟩⟩
  obtain rfl : j = 0 := by simpa using hj
  exact ⟨a, cap, hg, h, hc, hm⟩
theorem RdBs.two {w : World} {g : Nat} {a a2 : Option Addr} {l l2 : List UInt8} {cap cap2 : Nat} (hg : w.cell? ⟨g, 0, none⟩ = some (.slice a l.length cap)) (hg2 : w.cell? ⟨g, 1, none⟩ = some (.slice a2 l2.length cap2))
    (h : RdB w.heap.size w a l) (hc : l.length ≤ cap) (hm : cap ≤ maxLen) (h2 : RdB w.heap.size w a2 l2) (hc2 : l2.length ≤ cap2) (hm2 : cap2 ≤ maxLen) : RdBs w.heap.size w (some ⟨g, 0, none⟩) [l, l2] := by
  refine ⟨by unfold maxLen; simp, .inr ⟨g, 0, rfl, World.block_lt_of_cell? w _ hg, fun j hj => ?_⟩⟩
  have : j = 0 ∨ j = 1 := by have : j < 2 := by simpa using hj
                             omega
  rcases this with rfl | rfl
  · exact ⟨a, cap, hg, h, hc, hm⟩
  · exact ⟨a2, cap2, hg2, h2, hc2, hm2⟩
theorem BB.rdB {w : World} {g : Nat} {T : TypeId} {l : List UInt8} (h : BB w g T l) (hl : l.length ≤ maxLen) : RdB w.heap.size w (some ⟨g, 0, none⟩) l :=
  ⟨hl, .inr ⟨g, 0, rfl, h.lt, fun j hj => by rw [Nat.zero_add]; exact h.cell j hj⟩⟩

set_option maxRecDepth 100000 in
set_option maxHeartbeats 800000 in
theorem Tagged_any (s : ByteArray) (a : Option Addr) (cap : Nat) (l : List UInt8) (w : World) (hT : Tab w) (hl : RdB w.heap.size w a l) (hcap : l.length ≤ cap) (hc2 : cap ≤ maxLen) (hs : s.size ≤ 1152921504606846000) (hn : l.length ≤ 1152921504606840000) :
    Calls Tryz.prog 83 #[.string s, .slice a l.length cap] w fun e w' => e = .returned (.agg (bvA (tagS s.data.toList l))) ∧ Below w.heap.size w w' := by
  have HT := Lib.hid hT
  have HL := Lib.hid hl
  clear hT hl
  go_enter Tryz.func83, Tryz.ntmps83
  go_wp2_with fail
  obtain ⟨w1, hw1⟩ : ∃ w1, w1 = (w.alloc (.cells (bvA (List.replicate 32 0)) 69)).alloc (.cells #[.slice a l.length cap] 66) := ⟨_, rfl⟩
  have hB1 : Below w.heap.size w w1 := hw1 ▸ ((Below.refl _ _).alloc (Nat.le_refl _) _).alloc (by simp) _
  have hD1 : BB w1 w.heap.size 69 (List.replicate 32 0) := hw1 ▸ (BB.new w _ _).alloc _
  have hc1 : w1.cell? ⟨w.heap.size + 1, 0, none⟩ = some (.slice a l.length cap) := by rw [hw1, cell_of_row _ _ _ _ _ _ (heap_alloc2_new w _ _)]; rfl
  change Calls _ _ #[.string s, .slice (some ⟨w.heap.size + 1, 0, none⟩) [l].length 1] ((w.alloc (.cells (bvA (List.replicate 32 0)) 69)).alloc (.cells #[.slice a l.length cap] 66)) _
  rw [← hw1]
  clear hw1
  refine (tagged_any s (some ⟨w.heap.size + 1, 0, none⟩) 1 [l] w1 (HT.out.below hB1 HT.out.lt) (RdBs.one hc1 (HL.out.below' hB1 rfl) hcap hc2) (by simp) (by unfold maxLen; omega) hs (by simpa using hn)).mono ?_
  rintro e w2 ⟨rfl, hb2⟩
  have HD2 := Lib.hid (hD1.below hb2 hD1.lt)
  have HB2 := Lib.hid (hB1.trans (hb2.mono hB1.size))
  rw [show [l].flatten = l by simp]
  clear hb2 hD1 hB1 hc1
  go_wp2_with (refine wpList_storeA rfl 69 (.tmp 4) (.tmp 8) rfl w.heap.size (bvA (tagS s.data.toList l)) rfl rfl 69 _ HD2.out (sha_sz _) (sha_old _) (bvA_one _) ?_)
  intro w9 h9 hg9
  have hB9 := grown_below HB2.out hg9 (Nat.le_refl _) HB2.out.size
  go_wp2_with fail
  refine bodyPost_ret (v := .agg (bvA (tagS s.data.toList l))) ?_ rfl ⟨rfl, hB9⟩
  exact results_cell_row rfl _ _ w.heap.size 69 _ (0, 0) _ rfl h9 digest_und rfl (sha_sz _)

def leafS (d : List UInt8) : List UInt8 := tagS [108, 101, 97, 102] d
def nodeS (a b : List UInt8) : List UInt8 := tagS [110, 111, 100, 101] (a ++ b)
def chainS (a b : List UInt8) : List UInt8 := tagS [99, 104, 97, 105, 110] (a ++ b)

end Go.Proofs.YteigldfdaciopaaGreatDoor
