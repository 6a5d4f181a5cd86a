/-
  Contracts of Same (both).
  Contract of (*reader).take.
  Reading numerals: the plain function; the contract of (*reader).numeral.
  Contract of (*reader).numeral.
  Values in memory that a call has made: which blocks they lie in; a list of values that the call owns. The plain decoder.
  Contracts of (*reader).value and (*reader).list.
  Contracts of (*reader).list and of (*reader).value at a list.
  Contract of Decode (codec).
-/
import Derived.Test.YteigldfdaciopaaGreatDoorPkA
import Derived.BigQuiet
import Derived.Deep.QuietTactic
import Derived.Deep.RegionHeld3
import Derived.StillTailTactics
import Derived.Test.YteigldfdaciopaaGreatDoorPkK
import Derived.Defers
import Derived.Recover
import Derived.Laws.Pointers
set_option linter.unusedVariables false
set_option linter.unusedSimpArgs false
namespace Go.Proofs.YteigldfdaciopaaGreatDoor
open Go.RowKit

def VL.same : VL → VL → Bool
  | .nil, .nil => true
  | .cons k n s kids r, .cons k' n' s' kids' r' => (decide (k = k') && (decide (n = n') && (decide (s = s') && kids.same kids'))) && r.same r'
  | _, _ => false
def vsame (k n : Int) (s : ByteArray) (kids : VL) (k' n' : Int) (s' : ByteArray) (kids' : VL) : Bool := decide (k = k') && (decide (n = n') && (decide (s = s') && kids.same kids'))
theorem VL.same_cons (k n : Int) (s : ByteArray) (kids r : VL) (k' n' : Int) (s' : ByteArray) (kids' r' : VL) : (VL.cons k n s kids r).same (.cons k' n' s' kids' r') = (vsame k n s kids k' n' s' kids' && r.same r') := rfl
theorem VL.same_len : ∀ (f g : VL), f.len ≠ g.len → f.same g = false
  | .nil, .nil, h => absurd rfl h
  | .nil, .cons .., _ => rfl
  | .cons .., .nil, _ => rfl
  | .cons k n s kids r, .cons k' n' s' kids' r', h => by
    rw [VL.same_cons, VL.same_len r r' (by simp only [VL.len] at h; omega), Bool.and_false]
theorem VL.same_iff : ∀ (f g : VL), f.same g = true ↔ f = g
  | .nil, .nil => by simp [VL.same]
  | .nil, .cons .. => by simp [VL.same]
  | .cons .., .nil => by simp [VL.same]
  | .cons k n s kids r, .cons k' n' s' kids' r' => by
    simp only [VL.same, Bool.and_eq_true, decide_eq_true_eq, VL.same_iff kids kids', VL.same_iff r r', VL.cons.injEq]
    constructor
    · rintro ⟨⟨a, b, c, d⟩, e⟩; exact ⟨a, b, c, d, e⟩
    · rintro ⟨a, b, c, d, e⟩; exact ⟨⟨a, b, c, d⟩, e⟩
theorem vsame_iff (k n : Int) (s : ByteArray) (kids : VL) (k' n' : Int) (s' : ByteArray) (kids' : VL) : vsame k n s kids k' n' s' kids' = true ↔ k = k' ∧ n = n' ∧ s = s' ∧ kids = kids' := by
  simp only [vsame, Bool.and_eq_true, decide_eq_true_eq, VL.same_iff]

theorem ba_inj {a b : ByteArray} (h : a.toList = b.toList) : a = b := by
  rw [ByteArray.toList_eq, ByteArray.toList_eq] at h
  cases a; cases b
  simp only [ByteArray.mk.injEq]
  exact Array.ext' h

end Go.Proofs.YteigldfdaciopaaGreatDoor

namespace Go.Proofs.YteigldfdaciopaaGreatDoor
open Go.RowKit

/-- The panic of package codec's reader. -/
def errCode : List PanicEntry := [{ v := .iface 27 (.int .i64 10), recovered := false }]

/-- The reader at block R: what is left to be read. -/
def Rdr (Bd R : Nat) (w : World) (l : List UInt8) : Prop :=
  Bd ≤ R ∧ w.frozen? ⟨R, 0, none⟩ = false ∧ ∃ a cap, w.cell? ⟨R, 0, none⟩ = some (.slice a l.length cap) ∧ l.length ≤ cap ∧ cap ≤ maxLen ∧ RdB Bd w a l

theorem upd_drew (R : Nat) (w : World) : w.grownBy w.drew (some R) := ⟨rfl, rfl, rfl, Nat.le_refl _, fun _ _ _ => rfl⟩
theorem upd_set {R : Nat} {w w2 : World} (h : w.grownBy w2 (some R)) (v : Value) : w.grownBy (w2.setCell ⟨R, 0, none⟩ v) (some R) :=
  ⟨h.os, h.tape, h.output, by simpa using h.size, fun k hk hn => by rw [Below.heap_setCell _ _ _ _ (by intro e; subst e; exact hn rfl)]; exact h.block k hk hn⟩
theorem upd_trans {R : Nat} {w w1 w2 : World} (h : w.grownBy w1 (some R)) (k : w1.grownBy w2 (some R)) : w.grownBy w2 (some R) :=
  ⟨k.os.trans h.os, k.tape.trans h.tape, k.output.trans h.output, Nat.le_trans h.size k.size, fun i hi hn => (k.block i (Nat.lt_of_lt_of_le hi h.size) hn).trans (h.block i hi hn)⟩
theorem upd_below {R B : Nat} {w w1 : World} (h : w.grownBy w1 (some R)) (hB : B ≤ R) (hs : B ≤ w.heap.size) : Below B w w1 := (Below.refl _ _).grown h hs fun k hk => by injection hk with hk; omega

/-- Behind the store into the reader's cell. -/
theorem rdr_set {Bd R : Nat} {w w2 : World} {x : Value} {a : Option Addr} {l : List UInt8} {cap : Nat} (hU : w.grownBy w2 (some R)) (hbR : Bd ≤ R) (hR : w2.cell? ⟨R, 0, none⟩ = some x) (hfz : w2.frozen? ⟨R, 0, none⟩ = false) (hl : l.length ≤ cap) (hc : cap ≤ maxLen) (hr : RdB Bd w2 a l) :
    Rdr Bd R (w2.setCell ⟨R, 0, none⟩ (.slice a l.length cap)) l ∧ w.grownBy (w2.setCell ⟨R, 0, none⟩ (.slice a l.length cap)) (some R) := by
  have hlt := World.block_lt_of_cell? w2 _ hR
  refine ⟨⟨hbR, ?_, a, cap, ?_, hl, hc, ?_⟩, upd_set hU _⟩
  · simpa using hfz
  · exact World.cell?_setCell_same _ _ _ hR
  · exact hr.below ((Below.refl _ _).setCell (by simpa using hbR) _)

end Go.Proofs.YteigldfdaciopaaGreatDoor

namespace Go.Proofs.YteigldfdaciopaaGreatDoor
open Go.RowKit

/-- Reads a numeral of at most f + 1 digits; the last of ten is at most 1; a digit 0 may end it only if it is the first. -/
def dn : Nat → Bool → List UInt8 → Option (Nat × List UInt8)
  | _, _, [] => none
  | 0, first, c :: r => if 1 < c.toNat then none else if c.toNat = 0 ∧ first = false then none else some (c.toNat, r)
  | f + 1, first, c :: r => if c.toNat < 128 then (if c.toNat = 0 ∧ first = false then none else some (c.toNat, r)) else (dn f false r).map fun x => (c.toNat - 128 + 128 * x.1, x.2)
/-- Reads a numeral. -/
def dnum (l : List UInt8) : Option (Nat × List UInt8) := dn 9 true l

/-- What is read is a numeral. -/
theorem dn_num : ∀ (f : Nat) (first : Bool) (l : List UInt8) (y : Nat) (r : List UInt8), dn f first l = some (y, r) → l = numF f y ++ r ∧ y < 2 * 128 ^ f ∧ (first = false → y ≠ 0)
  | _, _, [], y, r, h => by simp [dn] at h
  | 0, first, c :: l, y, r, h => by
    simp only [dn] at h
    split at h
    · cases h
    · split at h
      · cases h
      · rename_i h1 h2
        simp only [Option.some.injEq, Prod.mk.injEq] at h
        obtain ⟨rfl, rfl⟩ := h
        refine ⟨by simp [numF], by omega, fun hf hz => h2 ⟨hz, hf⟩⟩
  | f + 1, first, c :: l, y, r, h => by
    have hc := c.toNat_lt
    simp only [dn] at h
    split at h
    · split at h
      · cases h
      · rename_i h1 h2
        simp only [Option.some.injEq, Prod.mk.injEq] at h
        obtain ⟨rfl, rfl⟩ := h
        have : 0 < 128 ^ f := Nat.pow_pos (by decide)
        refine ⟨by simp [numF, h1], by rw [Nat.pow_succ]; omega, fun hf hz => h2 ⟨hz, hf⟩⟩
    · rename_i h1
      cases hd : dn f false l with
      | none => rw [hd] at h; cases h
      | some x =>
        obtain ⟨y', r'⟩ := x
        rw [hd] at h
        simp only [Option.map_some, Option.some.injEq, Prod.mk.injEq] at h
        obtain ⟨rfl, rfl⟩ := h
        obtain ⟨e1, e2, e3⟩ := dn_num f false l y' r' hd
        have := e3 rfl
        refine ⟨?_, by rw [Nat.pow_succ]; omega, by omega⟩
        rw [numF, if_neg (by omega), show (c.toNat - 128 + 128 * y') % 128 + 128 = c.toNat from by omega, show (c.toNat - 128 + 128 * y') / 128 = y' from by omega, e1]
        simp
/-- A numeral is read. -/
theorem dn_of : ∀ (f y : Nat) (first : Bool) (r : List UInt8), y < 2 * 128 ^ f → (first = false → y ≠ 0) → dn f first (numF f y ++ r) = some (y, r)
  | 0, y, first, r, h, h0 => by
    simp only [numF, List.cons_append, List.nil_append, dn]
    rw [show (UInt8.ofNat y).toNat = y from by simp; omega, if_neg (by omega), if_neg (fun hh => h0 hh.2 hh.1)]
  | f + 1, y, first, r, h, h0 => by
    simp only [numF]
    split
    · rename_i h1
      simp only [List.cons_append, List.nil_append, dn]
      rw [show (UInt8.ofNat y).toNat = y from by simp; omega, if_pos h1, if_neg (fun hh => h0 hh.2 hh.1)]
    · rename_i h1
      simp only [List.cons_append, dn]
      rw [show (UInt8.ofNat (y % 128 + 128)).toNat = y % 128 + 128 from by rw [UInt8.toNat_ofNat']; omega, if_neg (by omega), dn_of f (y / 128) false r (by rw [Nat.pow_succ] at h; omega) (by intro _; omega)]
      simp; omega
theorem dnum_some {l : List UInt8} {y : Nat} {r : List UInt8} (h : dnum l = some (y, r)) : l = numeral y ++ r ∧ y ≤ 18446744073709551615 := by
  obtain ⟨a, b, _⟩ := dn_num 9 true l y r h
  exact ⟨a, by omega⟩
theorem dnum_numeral (y : Nat) (r : List UInt8) (h : y ≤ 18446744073709551615) : dnum (numeral y ++ r) = some (y, r) := dn_of 9 y true r (by omega) (by simp)
theorem dn_short : ∀ (f : Nat) (first : Bool) (l : List UInt8) (y : Nat) (r : List UInt8), dn f first l = some (y, r) → r.length < l.length := fun f first l y r h => by
  have := (dn_num f first l y r h).1
  rw [this, List.length_append, numF_length]
  have h2 : 1 ≤ ndigF f y := by cases f <;> simp only [ndigF]; omega; split <;> omega
  omega

/-- What the loop of the reader comes to, at digit i, with the number u so far. -/
def dnAt (i u : Nat) (l : List UInt8) : Option (Nat × List UInt8) := (dn (9 - i) (i == 0) l).map fun x => (u + 128 ^ i * x.1, x.2)

end Go.Proofs.YteigldfdaciopaaGreatDoor

namespace Go.Proofs.YteigldfdaciopaaGreatDoor
open Go.RowKit

/-- What a reading comes to: the number and what is left, or the panic. -/
def NumPost (Bd R : Nat) (w : World) (res : Option (Nat × List UInt8)) (e : Ending) (w' : World) : Prop :=
  (∃ y r, res = some (y, r) ∧ e = .returned (.int .u64 (y : Int)) ∧ Rdr Bd R w' r ∧ w.grownBy w' (some R)) ∨ (res = none ∧ e = .panicked errCode ∧ w.grownBy w' (some R))

theorem or_sh (u d k : Nat) (h : u < 2 ^ k) : u ||| (d * 2 ^ k) = u + d * 2 ^ k := by
  rw [← Nat.shiftLeft_eq, Nat.or_comm, ← Nat.shiftLeft_add_eq_or_of_lt h, Nat.add_comm]
theorem or_digit (u d j : Nat) (hu : u < 128 ^ j) (hd : d < 128) (hj : j < 9) :
    bits .or .u64 (u : Int) (IntKind.u64.wrap ((d : Int) % 128 * 2 ^ (7 * j))) = ((u + 128 ^ j * d : Nat) : Int) := by
  have e : 128 ^ j = 2 ^ (7 * j) := by rw [Nat.pow_mul]
  have h1 : 2 ^ (7 * j) ≤ 2 ^ 56 := Nat.pow_le_pow_right (by decide) (by omega)
  have h2 : d * 2 ^ (7 * j) ≤ 127 * 2 ^ 56 := Nat.mul_le_mul (by omega) h1
  have h3 : ((d : Int) % 128 * 2 ^ (7 * j)) = ((d * 2 ^ (7 * j) : Nat) : Int) := by
    rw [show (d : Int) % 128 = (d : Int) from by omega]; simp
  rw [e] at hu
  rw [h3, IntKind.wrap_u64, show (((d * 2 ^ (7 * j) : Nat) : Int) % 18446744073709551616) = ((d * 2 ^ (7 * j) : Nat) : Int) from by omega, bits_or_u64_nat _ _ (by omega) (by omega), or_sh _ _ _ hu, e, Nat.mul_comm]
theorem or_digit9 (u d : Nat) (hu : u < 128 ^ 9) (hd : d ≤ 1) :
    bits .or .u64 (u : Int) ((d : Int) % 128 * 9223372036854775808) = ((u + 128 ^ 9 * d : Nat) : Int) := by
  have h3 : ((d : Int) % 128 * 9223372036854775808) = ((d * 2 ^ 63 : Nat) : Int) := by omega
  rw [h3, bits_or_u64_nat _ _ (by omega) (by omega), or_sh _ _ _ (by omega)]
  omega
theorem or_zero (u : Nat) (hu : u < 18446744073709551616) : bits .or .u64 (u : Int) 0 = (u : Int) := by
  have := bits_or_u64_nat u 0 hu (by omega)
  rw [Nat.or_zero] at this; exact this
theorem num_ret {Bd R : Nat} {w w' : World} {res : Option (Nat × List UInt8)} {x : Int} {y : Nat} {r : List UInt8} (h : res = some (y, r)) (hx : x = (y : Int)) (h1 : Rdr Bd R w' r) (h2 : w.grownBy w' (some R)) : NumPost Bd R w res (.returned (.int .u64 x)) w' := by
  subst hx; exact .inl ⟨y, r, h, rfl, h1, h2⟩

end Go.Proofs.YteigldfdaciopaaGreatDoor

namespace Go.Proofs.YteigldfdaciopaaGreatDoor
open Go.RowKit

/-- As RepL, all blocks as 'ok' says. -/
def RepP (ok : Nat → Prop) (w : World) : Nat → Nat → VL → Prop
  | _, _, .nil => True
  | b, o, .cons k n s kids r => ok b ∧ I64 k ∧ I64 n ∧ s.size ≤ maxLen ∧
      w.cell? ⟨b, o, none⟩ = some (.int .i64 k) ∧ w.cell? ⟨b, o + 1, none⟩ = some (.int .i64 n) ∧ w.cell? ⟨b, o + 2, none⟩ = some (.string s) ∧
      (∃ a cap, w.cell? ⟨b, o + 3, none⟩ = some (.slice a kids.len cap) ∧ kids.len ≤ maxLen ∧ (((a = none → cap = 0) ∧ kids = .nil) ∨ ∃ b' o', a = some ⟨b', o', none⟩ ∧ RepP ok w b' o' kids)) ∧
      RepP ok w b (o + 4) r
def RepQ (ok : Nat → Prop) (w : World) (a : Option Addr) (cap : Nat) (kids : VL) : Prop :=
  kids.len ≤ maxLen ∧ (((a = none → cap = 0) ∧ kids = .nil) ∨ ∃ b' o', a = some ⟨b', o', none⟩ ∧ RepP ok w b' o' kids)

theorem RepP.keep {ok ok' : Nat → Prop} {w w' : World} (h0 : ∀ k, ok k → ok' k) (h1 : ∀ k, ok k → w'.heap[k]? = w.heap[k]?) : ∀ (f : VL) (b o : Nat), RepP ok w b o f → RepP ok' w' b o f := by
  intro f
  induction f with
  | nil => intro b o _; trivial
  | cons k n s kids r ihk ihr =>
    intro b o h
    obtain ⟨g0, g1, g2, g3, g4, g5, g6, ⟨a, cap, g7, hl, g8⟩, g9⟩ := h
    have c : ∀ j, w'.cell? ⟨b, j, none⟩ = w.cell? ⟨b, j, none⟩ := fun j => World.cell?_of_block (w := w) (h1 b g0)
    refine ⟨h0 _ g0, g1, g2, g3, (c _).trans g4, (c _).trans g5, (c _).trans g6, ⟨a, cap, (c _).trans g7, hl, ?_⟩, ihr _ _ g9⟩
    rcases g8 with g8 | ⟨b', o', e, g8⟩
    · exact .inl g8
    · exact .inr ⟨b', o', e, ihk _ _ g8⟩
theorem RepQ.keep {ok ok' : Nat → Prop} {w w' : World} (h0 : ∀ k, ok k → ok' k) (h1 : ∀ k, ok k → w'.heap[k]? = w.heap[k]?) {a : Option Addr} {cap : Nat} {f : VL} (h : RepQ ok w a cap f) : RepQ ok' w' a cap f := by
  obtain ⟨hl, h⟩ := h
  rcases h with h8 | ⟨b', o', e, h8⟩
  · exact ⟨hl, .inl h8⟩
  · exact ⟨hl, .inr ⟨b', o', e, h8.keep h0 h1 _ _ _⟩⟩
theorem RepP.toL {B : Nat} {ok : Nat → Prop} {w : World} (hB : ∀ k, ok k → k < B) : ∀ (f : VL) (b o : Nat), RepP ok w b o f → RepL B w b o f := by
  intro f
  induction f with
  | nil => intro b o _; trivial
  | cons k n s kids r ihk ihr =>
    intro b o h
    obtain ⟨g0, g1, g2, g3, g4, g5, g6, ⟨a, cap, g7, hl, g8⟩, g9⟩ := h
    refine ⟨hB _ g0, g1, g2, g3, g4, g5, g6, ⟨a, cap, g7, hl, ?_⟩, ihr _ _ g9⟩
    rcases g8 with g8 | ⟨b', o', e, g8⟩
    · exact .inl g8
    · exact .inr ⟨b', o', e, ihk _ _ g8⟩
theorem RepQ.toS {B : Nat} {ok : Nat → Prop} {w : World} (hB : ∀ k, ok k → k < B) {a : Option Addr} {cap : Nat} {f : VL} (h : RepQ ok w a cap f) : RepS B w a cap f := by
  obtain ⟨hl, h⟩ := h
  rcases h with h8 | ⟨b', o', e, h8⟩
  · exact ⟨hl, .inl h8⟩
  · exact ⟨hl, .inr ⟨b', o', e, h8.toL hB _ _ _⟩⟩

/-- The cells of the values of a forest. -/
def CellsP (ok : Nat → Prop) (w : World) : List Value → VL → Prop
  | cs, .nil => cs = []
  | cs, .cons k n s kids r => ∃ a cap cs', cs = .int .i64 k :: .int .i64 n :: .string s :: .slice a kids.len cap :: cs' ∧ I64 k ∧ I64 n ∧ s.size ≤ maxLen ∧ RepQ ok w a cap kids ∧ CellsP ok w cs' r
def VL.app : VL → VL → VL
  | .nil, g => g
  | .cons k n s kids r, g => .cons k n s kids (r.app g)
theorem VL.app_nil : ∀ f : VL, f.app .nil = f
  | .nil => rfl
  | .cons k n s kids r => by simp only [VL.app, VL.app_nil r]
theorem VL.app_assoc : ∀ f g h : VL, (f.app g).app h = f.app (g.app h)
  | .nil, _, _ => rfl
  | .cons k n s kids r, g, h => by simp only [VL.app, VL.app_assoc r g h]
theorem VL.len_app : ∀ f g : VL, (f.app g).len = f.len + g.len
  | .nil, g => by simp [VL.app, VL.len]
  | .cons k n s kids r, g => by simp only [VL.app, VL.len, VL.len_app r g]; omega
theorem CellsP.keep {ok ok' : Nat → Prop} {w w' : World} (h0 : ∀ k, ok k → ok' k) (h1 : ∀ k, ok k → w'.heap[k]? = w.heap[k]?) : ∀ (f : VL) (cs : List Value), CellsP ok w cs f → CellsP ok' w' cs f
  | .nil, _, h => h
  | .cons k n s kids r, cs, ⟨a, cap, cs', e, g1, g2, g3, g4, g5⟩ => ⟨a, cap, cs', e, g1, g2, g3, g4.keep h0 h1, CellsP.keep h0 h1 r cs' g5⟩
theorem CellsP.snoc {ok : Nat → Prop} {w : World} {k n : Int} {s : ByteArray} {kids : VL} {a : Option Addr} {cap : Nat} (hk : I64 k) (hn : I64 n) (hs : s.size ≤ maxLen) (hr : RepQ ok w a cap kids) :
    ∀ (f : VL) (cs : List Value), CellsP ok w cs f → CellsP ok w (cs ++ [.int .i64 k, .int .i64 n, .string s, .slice a kids.len cap]) (f.app (.cons k n s kids .nil))
  | .nil, cs, h => by
    have : cs = [] := h
    subst this
    exact ⟨a, cap, [], rfl, hk, hn, hs, hr, rfl⟩
  | .cons k' n' s' kids' r, cs, ⟨a', cap', cs', e, g1, g2, g3, g4, g5⟩ => by
    subst e
    exact ⟨a', cap', _, rfl, g1, g2, g3, g4, CellsP.snoc hk hn hs hr r cs' g5⟩
/-- The cells of a row, in memory. -/
theorem CellsP.rep {ok : Nat → Prop} {w : World} (b : Nat) (hb : ok b) : ∀ (f : VL) (cs : List Value) (o : Nat), CellsP ok w cs f → (∀ j u, cs[j]? = some u → w.cell? ⟨b, o + j, none⟩ = some u) → RepP ok w b o f
  | .nil, _, _, _, _ => trivial
  | .cons k n s kids r, cs, o, ⟨a, cap, cs', e, g1, g2, g3, g4, g5⟩, hc => by
    subst e
    refine ⟨hb, g1, g2, g3, hc 0 _ rfl, hc 1 _ rfl, hc 2 _ rfl, ⟨a, cap, hc 3 _ rfl, g4.1, g4.2⟩, CellsP.rep b hb r cs' (o + 4) g5 fun j u hu => ?_⟩
    have := hc (j + 4) u (by simpa using hu)
    rwa [show o + 4 + j = o + (j + 4) from by omega]

/-- A list of values that the call owns. -/
def OwnV (ok : Nat → Prop) (B : Nat) (w : World) (v : Value) (f : VL) : Prop := ∃ cs, w.ownsRow B 100 4 v f.len cs ∧ CellsP ok w cs f
theorem OwnV.nil (ok : Nat → Prop) (B : Nat) (w : World) : OwnV ok B w (.slice none 0 0) .nil := ⟨[], World.ownsRow_nil _ _ _ _, rfl⟩
/-- It is a value's elements. -/
theorem OwnV.rep {ok ok' : Nat → Prop} {B : Nat} {w : World} {v : Value} {f : VL} (h : OwnV ok B w v f) (h0 : ∀ k, ok k → ok' k) (h1 : ∀ k, B ≤ k → k < w.heap.size → ok' k) : ∃ a cap, v = .slice a f.len cap ∧ RepQ ok' w a cap f := by
  obtain ⟨cs, ho, hc⟩ := h
  have hcell := @World.ownsRow.cells w B 100 4 v f.len cs ho
  rcases ho.2 with ⟨rfl, hl⟩ | ⟨g, cap, cur, rfl, hg, hh, h3, h4, r⟩
  · have : f = .nil := VL.nil_of_len hl
    subst this
    exact ⟨none, 0, rfl, by simp [VL.len], .inl ⟨fun _ => rfl, rfl⟩⟩
  · have hg2 := (Array.getElem?_eq_some_iff.1 hh).1
    refine ⟨some ⟨g, 0, none⟩, cap, rfl, by omega, .inr ⟨g, 0, rfl, ?_⟩⟩
    refine CellsP.rep g (h1 g hg hg2) f cs 0 (hc.keep h0 (fun _ _ => rfl)) fun j u hu => ?_
    have := hcell (g := g) rfl j u hu
    rw [addr_add] at this
    exact this

/-! ### The plain decoder -/
structure Val where
  k : Int
  n : Int
  s : ByteArray
  kids : VL

def dlist (one : List UInt8 → Option (Val × List UInt8)) : Nat → List UInt8 → Option (VL × List UInt8)
  | 0, l => some (.nil, l)
  | c + 1, l => match one l with
    | none => none
    | some (v, l1) => (dlist one c l1).map fun x => (.cons v.k v.n v.s v.kids x.1, x.2)
/-- Reads a value in which lists may lie within each other to a depth. -/
def dval : Nat → List UInt8 → Option (Val × List UInt8)
  | _, [] => none
  | 0, t :: l =>
    if t.toNat = 1 then (dnum l).map fun x => (⟨1, zag x.1, ByteArray.empty, .nil⟩, x.2)
    else if t.toNat = 2 then (dnum l).bind fun x => if x.1 ≤ x.2.length then some (⟨2, 0, ⟨(x.2.take x.1).toArray⟩, .nil⟩, x.2.drop x.1) else none
    else none
  | d + 1, t :: l =>
    if t.toNat = 1 then (dnum l).map fun x => (⟨1, zag x.1, ByteArray.empty, .nil⟩, x.2)
    else if t.toNat = 2 then (dnum l).bind fun x => if x.1 ≤ x.2.length then some (⟨2, 0, ⟨(x.2.take x.1).toArray⟩, .nil⟩, x.2.drop x.1) else none
    else if t.toNat = 3 then (dnum l).bind fun x => (dlist (dval d) x.1 x.2).map fun y => (⟨3, 0, ByteArray.empty, y.1⟩, y.2)
    else none
theorem dnum_short {l : List UInt8} {y : Nat} {r : List UInt8} (h : dnum l = some (y, r)) : r.length < l.length := dn_short 9 true l y r h
theorem dlist_short {one : List UInt8 → Option (Val × List UInt8)} (h1 : ∀ l v r, one l = some (v, r) → r.length < l.length) : ∀ (c : Nat) (l : List UInt8) (f : VL) (r : List UInt8), dlist one c l = some (f, r) → r.length + c ≤ l.length
  | 0, l, f, r, h => by simp only [dlist, Option.some.injEq, Prod.mk.injEq] at h; rw [h.2]; omega
  | c + 1, l, f, r, h => by
    simp only [dlist] at h
    cases ho : one l with
    | none => rw [ho] at h; cases h
    | some x =>
      obtain ⟨v, l1⟩ := x
      rw [ho] at h
      simp only at h
      cases hd : dlist one c l1 with
      | none => rw [hd] at h; cases h
      | some y =>
        obtain ⟨g, r'⟩ := y
        rw [hd] at h
        simp only [Option.map_some, Option.some.injEq, Prod.mk.injEq] at h
        have h2 := h1 l v l1 ho
        have h3 := dlist_short h1 c l1 g r' hd
        rw [← h.2]; omega
theorem dval_short : ∀ (d : Nat) (l : List UInt8) (v : Val) (r : List UInt8), dval d l = some (v, r) → r.length < l.length := by
  intro d
  induction d with
  | zero =>
    intro l v r h
    cases l with
    | nil => simp [dval] at h
    | cons t l =>
      simp only [dval] at h
      split at h
      · cases hn : dnum l with
        | none => rw [hn] at h; cases h
        | some x =>
          rw [hn] at h; simp only [Option.map_some, Option.some.injEq, Prod.mk.injEq] at h
          have := dnum_short hn; rw [← h.2]; simp only [List.length_cons]; omega
      · split at h
        · cases hn : dnum l with
          | none => rw [hn] at h; cases h
          | some x =>
            rw [hn] at h; simp only [Option.bind_some] at h
            split at h
            · simp only [Option.some.injEq, Prod.mk.injEq] at h
              have := dnum_short hn; rw [← h.2]; simp only [List.length_cons, List.length_drop]; omega
            · cases h
        · cases h
  | succ d ih =>
    intro l v r h
    cases l with
    | nil => simp [dval] at h
    | cons t l =>
      simp only [dval] at h
      split at h
      · cases hn : dnum l with
        | none => rw [hn] at h; cases h
        | some x =>
          rw [hn] at h; simp only [Option.map_some, Option.some.injEq, Prod.mk.injEq] at h
          have := dnum_short hn; rw [← h.2]; simp only [List.length_cons]; omega
      · split at h
        · cases hn : dnum l with
          | none => rw [hn] at h; cases h
          | some x =>
            rw [hn] at h; simp only [Option.bind_some] at h
            split at h
            · simp only [Option.some.injEq, Prod.mk.injEq] at h
              have := dnum_short hn; rw [← h.2]; simp only [List.length_cons, List.length_drop]; omega
            · cases h
        · split at h
          · cases hn : dnum l with
            | none => rw [hn] at h; cases h
            | some x =>
              rw [hn] at h; simp only [Option.bind_some] at h
              cases hd : dlist (dval d) x.1 x.2 with
              | none => rw [hd] at h; cases h
              | some y =>
                obtain ⟨g, r'⟩ := y
                rw [hd] at h
                simp only [Option.map_some, Option.some.injEq, Prod.mk.injEq] at h
                have h1 := dnum_short hn
                have h2 := dlist_short ih _ _ _ _ hd
                rw [← h.2]; simp only [List.length_cons]; omega
          · cases h
end Go.Proofs.YteigldfdaciopaaGreatDoor

namespace Go.Proofs.YteigldfdaciopaaGreatDoor
open Go.RowKit

theorem Rdr.lt {Bd R : Nat} {w : World} {l : List UInt8} (h : Rdr Bd R w l) : R < w.heap.size := by
  obtain ⟨h0, h1, a, cap, h2, h3, h4, h5⟩ := h
  exact World.block_lt_of_cell? w _ h2
theorem Rdr.same {Bd R : Nat} {w w' : World} {l : List UInt8} (h : Rdr Bd R w l) (hb : Below w.heap.size w w') : Rdr Bd R w' l := by
  have hlt := h.lt
  obtain ⟨h0, h1, a, cap, h2, h3, h4, h5⟩ := h
  exact ⟨h0, (hb.frozen (p := ⟨R, 0, none⟩) hlt).trans h1, a, cap, (hb.cell (p := ⟨R, 0, none⟩) hlt).trans h2, h3, h4, h5.below (hb.mono (by omega))⟩
theorem upd_same {R : Nat} {w w1 w2 : World} (h : w.grownBy w1 (some R)) (hb : Below w1.heap.size w1 w2) : w.grownBy w2 (some R) := upd_trans h ⟨hb.os, hb.tape, hb.output, hb.size, fun k hk _ => hb.block k hk⟩
theorem upd_of {R : Nat} {w w2 : World} (hb : Below w.heap.size w w2) : w.grownBy w2 (some R) := ⟨hb.os, hb.tape, hb.output, hb.size, fun k hk _ => hb.block k hk⟩

/-- What reading a value comes to. -/
def ValPost (Bd R : Nat) (w : World) (res : Option (Val × List UInt8)) (e : Ending) (w' : World) : Prop :=
  (∃ v a cap r, res = some (v, r) ∧ e = .returned (.agg #[.int .i64 v.k, .int .i64 v.n, .string v.s, .slice a v.kids.len cap]) ∧ Rdr Bd R w' r ∧ w.grownBy w' (some R) ∧ I64 v.k ∧ I64 v.n ∧ v.s.size ≤ maxLen ∧ RepQ (fun b => w.heap.size ≤ b ∧ b < w'.heap.size) w' a cap v.kids) ∨
  (res = none ∧ e = .panicked errCode ∧ w.grownBy w' (some R))

/-- The named result of value: a block of four cells, in a later world. -/
theorem box4_upd {w w1 : World} {x0 x1 x2 x3 : Value} {T : TypeId} {R : Nat} (hR : R < w.heap.size) (h : (w.alloc (.cells #[x0, x1, x2, x3] T)).grownBy w1 (some R)) :
    w1.cell? ⟨w.heap.size, 0, none⟩ = some x0 ∧ w1.cell? ⟨w.heap.size, 1, none⟩ = some x1 ∧ w1.cell? ⟨w.heap.size, 2, none⟩ = some x2 ∧ w1.cell? ⟨w.heap.size, 3, none⟩ = some x3 ∧ (∀ j, w1.frozen? ⟨w.heap.size, j, none⟩ = false) := by
  have hb := h.block w.heap.size (by simp) (by intro e; injection e with e; omega)
  refine ⟨?_, ?_, ?_, ?_, fun j => ?_⟩
  · rw [World.cell?_of_block (w := w.alloc (.cells #[x0, x1, x2, x3] T)) (a := ⟨w.heap.size, 0, none⟩) hb]; simp
  · rw [World.cell?_of_block (w := w.alloc (.cells #[x0, x1, x2, x3] T)) (a := ⟨w.heap.size, 1, none⟩) hb]; simp
  · rw [World.cell?_of_block (w := w.alloc (.cells #[x0, x1, x2, x3] T)) (a := ⟨w.heap.size, 2, none⟩) hb]; simp
  · rw [World.cell?_of_block (w := w.alloc (.cells #[x0, x1, x2, x3] T)) (a := ⟨w.heap.size, 3, none⟩) hb]; simp
  · rw [World.frozen?_of_block (w := w.alloc (.cells #[x0, x1, x2, x3] T)) (a := ⟨w.heap.size, j, none⟩) hb]; simp

theorem upd_cell {w w1 : World} {r : Option Nat} (h : w.grownBy w1 r) {N j : Nat} (hr : r = some N) (v : Value) : w.grownBy (w1.setCell ⟨N, j, none⟩ v) r :=
  ⟨h.os, h.tape, h.output, by simpa using h.size, fun k hk hn => by rw [Below.heap_setCell _ _ _ _ (by intro e; exact hn (by rw [hr, e]))]; exact h.block k hk hn⟩
theorem upd_set4 (w : World) (N : Nat) (v0 v1 v2 v3 : Value) : w.grownBy ((((w.setCell ⟨N, 0, none⟩ v0).setCell ⟨N, 1, none⟩ v1).setCell ⟨N, 2, none⟩ v2).setCell ⟨N, 3, none⟩ v3) (some N) :=
  upd_cell (upd_cell (upd_cell (upd_cell ⟨rfl, rfl, rfl, Nat.le_refl _, fun _ _ _ => rfl⟩ rfl _) rfl _) rfl _) rfl _
/-- A block of the call's own is written. -/
theorem upd_new {w w2 w3 : World} {R N : Nat} (h : w.grownBy w2 (some R)) (k : w2.grownBy w3 (some N)) (hN : w.heap.size ≤ N) : w.grownBy w3 (some R) :=
  ⟨k.os.trans h.os, k.tape.trans h.tape, k.output.trans h.output, Nat.le_trans h.size k.size, fun i hi hn => (k.block i (Nat.lt_of_lt_of_le hi h.size) (by intro e; injection e with e; omega)).trans (h.block i hi hn)⟩
theorem Rdr.upd {Bd R N : Nat} {w w' : World} {l : List UInt8} (h : Rdr Bd R w l) (hu : w.grownBy w' (some N)) (hN : R < N) : Rdr Bd R w' l := by
  have hlt := h.lt
  obtain ⟨h0, h1, a, cap, h2, h3, h4, h5⟩ := h
  have hb : Below (R + 1) w w' := (Below.refl _ _).grown hu (by omega) fun k hk => by injection hk with hk; omega
  exact ⟨h0, (hb.frozen (p := ⟨R, 0, none⟩) (by simp)).trans h1, a, cap, (hb.cell (p := ⟨R, 0, none⟩) (by simp)).trans h2, h3, h4, h5.below (hb.mono (by omega))⟩
theorem Rdr.below {Bd R B : Nat} {w w' : World} {l : List UInt8} (h : Rdr Bd R w l) (hRB : R < B) (hb : Below B w w') : Rdr Bd R w' l := by
  obtain ⟨h0, h1, a, cap, h2, h3, h4, h5⟩ := h
  exact ⟨h0, (hb.frozen (p := ⟨R, 0, none⟩) hRB).trans h1, a, cap, (hb.cell (p := ⟨R, 0, none⟩) hRB).trans h2, h3, h4, h5.below (hb.mono (by omega))⟩
theorem upd_below2 {R : Nat} {w w2 w3 : World} (h : w.grownBy w2 (some R)) (hb : Below w.heap.size w2 w3) : w.grownBy w3 (some R) :=
  ⟨hb.os.trans h.os, hb.tape.trans h.tape, hb.output.trans h.output, Nat.le_trans h.size hb.size, fun k hk hn => (hb.block k hk).trans (h.block k hk hn)⟩
theorem zag_bd {y : Nat} (h : y ≤ 18446744073709551615) : I64 (zag y) := by
  unfold I64 zag; split <;> omega
theorem i64_0 : I64 0 := by unfold I64; omega
theorem i64_1 : I64 1 := by unfold I64; omega
theorem i64_2 : I64 2 := by unfold I64; omega
theorem i64_3 : I64 3 := by unfold I64; omega

end Go.Proofs.YteigldfdaciopaaGreatDoor

namespace Go.Proofs.YteigldfdaciopaaGreatDoor
open Go.RowKit

theorem valInfo : (Tryz.prog.info? 100).map (fun i => (i.zero, i.size, i.bytes)) = some (some (.agg #[.int .i64 0, .int .i64 0, .string ByteArray.empty, .slice none 0 0]), 4, 56) := by kernel_rfl

/-- append(own, v), v a value that was put into a block of its own. -/
theorem wpList_appV {ops : Array Oper} {rest : List Oper} {o : Oper} {a : Act} {w : World} {Q : Exit → Act → World → Prop} (hgd : o.guard = none) (s x : Operand)
    (ho : o.op = .call { callee := .builtin .append, args := #[s, x], argTypes := #[98, 98] })
    (ok : Nat → Prop) (B : Nat) (v : Value) (f : VL) (k n : Int) (str : ByteArray) (kids : VL) (ka : Option Addr) (kc : Nat) (g : Nat) (hs : a.eval s = v) (hown : OwnV ok B w v f) (hx : a.eval x = .slice (some ⟨g, 0, none⟩) 1 1)
    (hg : w.heap[g]? = some (.cells #[.int .i64 k, .int .i64 n, .string str, .slice ka kids.len kc] 100)) (hk : I64 k) (hn : I64 n) (hst : str.size ≤ maxLen) (hr : RepQ ok w ka kc kids)
    (hlen : f.len + 1 ≤ 2000000000000) (hB : B ≤ w.heap.size) (hok : ∀ b, ok b → v.ownBlock ≠ some b ∧ b < w.heap.size)
    (h : ∀ v' w', OwnV (fun b => ok b ∧ v'.ownBlock ≠ some b) B w' v' (f.app (.cons k n str kids .nil)) → Grew w v w' v' → wpList Tryz.prog ops Q rest (a.put o.dst v') w') : wpList Tryz.prog ops Q (o :: rest) a w := by
  refine wpList_plain hgd fun K hK => ?_
  obtain ⟨cs, ho1, hc1⟩ := hown
  obtain ⟨i0, hi, hz0, hz1, hz2⟩ := info_parts valInfo
  have hnews : ∀ j u, [Value.int .i64 k, .int .i64 n, .string str, .slice ka kids.len kc][j]? = some u → w.cell? ((⟨g, 0, none⟩ : Addr).add j) = some u := by
    intro j u hu
    rw [addr_add, Nat.zero_add, cell_of_row w g j _ _ (0, 0) hg]
    simpa using hu
  obtain ⟨v', w', hrun, h2, h3, _, h5⟩ := run_append_own_at (P := Tryz.prog) (w := w) B 98 o.type 100 i0 _ 4 56 Tryz.underlying98 hi hz0 hz1 hz2 rfl (by decide) v f.len cs ho1 ⟨g, 0, none⟩ 1 1 _ (by rfl) hnews (by intro u hu; simp at hu; rcases hu with rfl | rfl | rfl | rfl <;> rfl) (by unfold maxLen; omega) (by omega) hB
  unfold Oper.wp execOp
  simp only [ho, resolve, invoke, builtin, Sem.run_bind, Sem.run_pure, Result.andThen_ok, List.map_toArray, List.map_cons, List.map_nil, hs, hx, hrun]
  have hG : Grew w v w' v' := ⟨h3, fun k' hk' => by
    rcases h5 with h5 | h5
    · exact .inl (h5 ▸ hk')
    · rw [h5] at hk'; cases hk'; exact .inr (Nat.le_refl _)⟩
  refine hK _ _ (h v' w' ⟨_, by rw [VL.len_app]; exact h2, ?_⟩ hG)
  have e1 : ∀ b, ok b → (ok b ∧ v'.ownBlock ≠ some b) := fun b hb => ⟨hb, hG.ne (hok b hb).1 (hok b hb).2⟩
  have e2 : ∀ b, ok b → w'.heap[b]? = w.heap[b]? := fun b hb => h3.block b (hok b hb).2 (Ne.symm (hok b hb).1)
  exact CellsP.snoc hk hn hst (hr.keep e1 e2) f cs (hc1.keep e1 e2)

theorem OwnV.upd {ok ok' : Nat → Prop} {B R : Nat} {w w2 : World} {v : Value} {f : VL} (h : OwnV ok B w v f) (hu : w.grownBy w2 (some R)) (hR : R < B) (h0 : ∀ k, ok k → ok' k) (h1 : ∀ k, ok k → k ≠ R ∧ k < w.heap.size) : OwnV ok' B w2 v f := by
  obtain ⟨cs, ho, hc⟩ := h
  refine ⟨cs, World.ownsRow.kept ho hu ?_, hc.keep h0 fun k hk => hu.block k (h1 k hk).2 (by intro e; injection e with e; exact (h1 k hk).1 e)⟩
  cases hv : v.ownBlock with
  | none => exact .inl rfl
  | some k =>
    have := (World.ownsRow.lt ho k hv).1
    exact .inr (by intro e; injection e with e; omega)
theorem OwnV.imp {ok ok' : Nat → Prop} {B : Nat} {w : World} {v : Value} {f : VL} (h : OwnV ok B w v f) (h0 : ∀ k, ok k → ok' k) : OwnV ok' B w v f := by
  obtain ⟨cs, ho, hc⟩ := h
  exact ⟨cs, ho, hc.keep h0 fun _ _ => rfl⟩
theorem OwnV.row {ok : Nat → Prop} {B : Nat} {w : World} {v : Value} {f : VL} (h : OwnV ok B w v f) : ∀ k, v.ownBlock = some k → B ≤ k ∧ k < w.heap.size := by
  obtain ⟨cs, ho, hc⟩ := h
  exact World.ownsRow.lt ho

/-- What reading the elements of a list comes to. -/
def ListPost (Bd R : Nat) (w : World) (res : Option (VL × List UInt8)) (e : Ending) (w' : World) : Prop :=
  (∃ f a cap r, res = some (f, r) ∧ e = .returned (.slice a f.len cap) ∧ Rdr Bd R w' r ∧ w.grownBy w' (some R) ∧ RepQ (fun b => w.heap.size ≤ b ∧ b < w'.heap.size) w' a cap f) ∨
  (res = none ∧ e = .panicked errCode ∧ w.grownBy w' (some R))
end Go.Proofs.YteigldfdaciopaaGreatDoor

namespace Go.Proofs.YteigldfdaciopaaGreatDoor
open Go.RowKit

/-- What Decode answers: the value, or nothing. -/
def dec (l : List UInt8) : Option Val := match dval 16 l with
  | some (v, []) => some v
  | _ => none

/-- Four cells are written. -/
theorem set4_cells {w : World} {N q : Nat} {x0 x1 x2 x3 y : Value} (v0 v1 v2 v3 : Value) (hq : ¬ N = q) (c0 : w.cell? ⟨N, 0, none⟩ = some x0) (c1 : w.cell? ⟨N, 1, none⟩ = some x1) (c2 : w.cell? ⟨N, 2, none⟩ = some x2) (c3 : w.cell? ⟨N, 3, none⟩ = some x3) (c4 : w.cell? ⟨q, 0, none⟩ = some y) :
    ((((w.setCell ⟨N, 0, none⟩ v0).setCell ⟨N, 1, none⟩ v1).setCell ⟨N, 2, none⟩ v2).setCell ⟨N, 3, none⟩ v3).cell? ⟨N, 0, none⟩ = some v0 ∧ ((((w.setCell ⟨N, 0, none⟩ v0).setCell ⟨N, 1, none⟩ v1).setCell ⟨N, 2, none⟩ v2).setCell ⟨N, 3, none⟩ v3).cell? ⟨N, 1, none⟩ = some v1 ∧ ((((w.setCell ⟨N, 0, none⟩ v0).setCell ⟨N, 1, none⟩ v1).setCell ⟨N, 2, none⟩ v2).setCell ⟨N, 3, none⟩ v3).cell? ⟨N, 2, none⟩ = some v2 ∧ ((((w.setCell ⟨N, 0, none⟩ v0).setCell ⟨N, 1, none⟩ v1).setCell ⟨N, 2, none⟩ v2).setCell ⟨N, 3, none⟩ v3).cell? ⟨N, 3, none⟩ = some v3 ∧ ((((w.setCell ⟨N, 0, none⟩ v0).setCell ⟨N, 1, none⟩ v1).setCell ⟨N, 2, none⟩ v2).setCell ⟨N, 3, none⟩ v3).cell? ⟨q, 0, none⟩ = some y := by
  refine ⟨?_, ?_, ?_, ?_, ?_⟩ <;> simp [go_sem, c0, c1, c2, c3, c4, hq, Ne.symm hq]
theorem set_err {w : World} {N q : Nat} {x0 x1 x2 x3 y : Value} (v : Value) (hq : ¬ N = q) (h : w.cell? ⟨N, 0, none⟩ = some x0 ∧ w.cell? ⟨N, 1, none⟩ = some x1 ∧ w.cell? ⟨N, 2, none⟩ = some x2 ∧ w.cell? ⟨N, 3, none⟩ = some x3 ∧ w.cell? ⟨q, 0, none⟩ = some y) :
    (w.setCell ⟨q, 0, none⟩ v).cell? ⟨N, 0, none⟩ = some x0 ∧ (w.setCell ⟨q, 0, none⟩ v).cell? ⟨N, 1, none⟩ = some x1 ∧ (w.setCell ⟨q, 0, none⟩ v).cell? ⟨N, 2, none⟩ = some x2 ∧ (w.setCell ⟨q, 0, none⟩ v).cell? ⟨N, 3, none⟩ = some x3 ∧ (w.setCell ⟨q, 0, none⟩ v).cell? ⟨q, 0, none⟩ = some v := by
  obtain ⟨c0, c1, c2, c3, c4⟩ := h
  refine ⟨?_, ?_, ?_, ?_, ?_⟩ <;> simp [go_sem, c0, c1, c2, c3, c4, hq, Ne.symm hq]
theorem below_err {w w1 : World} {B q : Nat} (h : Below B w w1) (hq : B ≤ q) (v : Value) : Below B w (w1.setCell ⟨q, 0, none⟩ v) := h.setCell hq v
theorem below_set4 {w w1 : World} {B N : Nat} (h : Below B w w1) (hN : B ≤ N) (v0 v1 v2 v3 : Value) : Below B w ((((w1.setCell ⟨N, 0, none⟩ v0).setCell ⟨N, 1, none⟩ v1).setCell ⟨N, 2, none⟩ v2).setCell ⟨N, 3, none⟩ v3) := (((h.setCell hN v0).setCell hN v1).setCell hN v2).setCell hN v3

/-- What Decode leaves. -/
def DecPost (w : World) (res : Option Val) (e : Ending) (w' : World) : Prop :=
  (∃ v a cap, res = some v ∧ e = .returned (.tuple #[.agg #[.int .i64 v.k, .int .i64 v.n, .string v.s, .slice a v.kids.len cap], .int .i64 0]) ∧ I64 v.k ∧ I64 v.n ∧ v.s.size ≤ maxLen ∧ RepQ (fun b => w.heap.size ≤ b ∧ b < w'.heap.size) w' a cap v.kids ∧ Below w.heap.size w w') ∨
  (res = none ∧ e = .returned (.tuple #[.agg #[.int .i64 0, .int .i64 0, .string ByteArray.empty, .slice none 0 0], .int .i64 10]) ∧ Below w.heap.size w w')

/-- The three blocks that Decode makes first, in a later world in which the reader's alone has turned. -/
theorem dec_boxes {w w1 : World} {x0 x1 x2 x3 y z : Value} {S T U : TypeId} (h : (((w.alloc (.cells #[x0, x1, x2, x3] S)).alloc (.cells #[y] T)).alloc (.cells #[z] U)).grownBy w1 (some (w.heap.size + 1 + 1))) :
    (w1.cell? ⟨w.heap.size, 0, none⟩ = some x0 ∧ w1.cell? ⟨w.heap.size, 1, none⟩ = some x1 ∧ w1.cell? ⟨w.heap.size, 2, none⟩ = some x2 ∧ w1.cell? ⟨w.heap.size, 3, none⟩ = some x3) ∧ w1.cell? ⟨w.heap.size + 1, 0, none⟩ = some y ∧ (∀ j, w1.frozen? ⟨w.heap.size, j, none⟩ = false) ∧ w1.frozen? ⟨w.heap.size + 1, 0, none⟩ = false ∧ Below w.heap.size w w1 := by
  have hs1 : (w.alloc (.cells #[x0, x1, x2, x3] S)).heap.size = w.heap.size + 1 := by simp
  have hs2 : ((w.alloc (.cells #[x0, x1, x2, x3] S)).alloc (.cells #[y] T)).heap.size = w.heap.size + 1 + 1 := by simp
  have hs3 : (((w.alloc (.cells #[x0, x1, x2, x3] S)).alloc (.cells #[y] T)).alloc (.cells #[z] U)).heap.size = w.heap.size + 1 + 1 + 1 := by simp
  have hA : Below (w.heap.size + 1) (w.alloc (.cells #[x0, x1, x2, x3] S)) w1 :=
    (((Below.refl _ _).alloc (by omega) _).alloc (by omega) _).trans ((Below.refl _ _).grown h (by omega) fun k hk => by injection hk with hk; omega)
  have hBB : Below (w.heap.size + 1 + 1) ((w.alloc (.cells #[x0, x1, x2, x3] S)).alloc (.cells #[y] T)) w1 :=
    ((Below.refl _ _).alloc (by omega) _).trans ((Below.refl _ _).grown h (by omega) fun k hk => by injection hk with hk; omega)
  have hnew : ∀ (X : World), (X.alloc (.cells #[y] T)).cell? ⟨X.heap.size, 0, none⟩ = some y ∧ (X.alloc (.cells #[y] T)).frozen? ⟨X.heap.size, 0, none⟩ = false := fun X => ⟨by simp, by simp⟩
  have h1 := hnew (w.alloc (.cells #[x0, x1, x2, x3] S))
  rw [hs1] at h1
  refine ⟨box4 hA, ?_, fun j => ?_, ?_, below_start hA⟩
  · rw [hBB.cell (by simp)]; exact h1.1
  · rw [hA.frozen (by simp)]; simp
  · rw [hBB.frozen (by simp)]; exact h1.2

end Go.Proofs.YteigldfdaciopaaGreatDoor
