/-
  Values in memory that a call has made: which blocks they lie in; a list of values that the call owns. The plain decoder.
-/
import Derived.Test.YtihllbblehjhlaaNml
import Derived.Test.YtihllbblehjhlaaNum
namespace Go.Proofs.Ytihllbblehjhlaa
open Go.RowKit

/-- As RepL, all blocks as 'ok' says. -/
def RepP (ok : Nat → Prop) (w : World) : Nat → Nat → VL → Prop
  | _, _, .nil => True
  | b, o, .cons k n s kids r => ok b ∧ I64 k ∧ I64 n ∧ s.size ≤ maxLen ∧
      w.cell? ⟨b, o, none⟩ = some (.int .i64 k) ∧ w.cell? ⟨b, o + 1, none⟩ = some (.int .i64 n) ∧ w.cell? ⟨b, o + 2, none⟩ = some (.string s) ∧
      (∃ a cap, w.cell? ⟨b, o + 3, none⟩ = some (.slice a kids.len cap) ∧ kids.len ≤ maxLen ∧ (((a = none → cap = 0) ∧ kids = .nil) ∨ ∃ b' o', a = some ⟨b', o', none⟩ ∧ RepP ok w b' o' kids)) ∧
      RepP ok w b (o + 4) r
def RepQ (ok : Nat → Prop) (w : World) (a : Option Addr) (cap : Nat) (kids : VL) : Prop :=
  kids.len ≤ maxLen ∧ (((a = none → cap = 0) ∧ kids = .nil) ∨ ∃ b' o', a = some ⟨b', o', none⟩ ∧ RepP ok w b' o' kids)

theorem RepP.keep {ok ok' : Nat → Prop} {w w' : World} (h0 : ∀ k, ok k → ok' k) (h1 : ∀ k, ok k → w'.heap[k]? = w.heap[k]?) : ∀ (f : VL) (b o : Nat), RepP ok w b o f → RepP ok' w' b o f := by
  intro f
  induction f with
  | nil => intro b o _; trivial
  | cons k n s kids r ihk ihr =>
    intro b o h
    obtain ⟨g0, g1, g2, g3, g4, g5, g6, ⟨a, cap, g7, hl, g8⟩, g9⟩ := h
    have c : ∀ j, w'.cell? ⟨b, j, none⟩ = w.cell? ⟨b, j, none⟩ := fun j => World.cell?_of_block (w := w) (h1 b g0)
    refine ⟨h0 _ g0, g1, g2, g3, (c _).trans g4, (c _).trans g5, (c _).trans g6, ⟨a, cap, (c _).trans g7, hl, ?_⟩, ihr _ _ g9⟩
    rcases g8 with g8 | ⟨b', o', e, g8⟩
    · exact .inl g8
    · exact .inr ⟨b', o', e, ihk _ _ g8⟩
theorem RepQ.keep {ok ok' : Nat → Prop} {w w' : World} (h0 : ∀ k, ok k → ok' k) (h1 : ∀ k, ok k → w'.heap[k]? = w.heap[k]?) {a : Option Addr} {cap : Nat} {f : VL} (h : RepQ ok w a cap f) : RepQ ok' w' a cap f := by
  obtain ⟨hl, h⟩ := h
  rcases h with h8 | ⟨b', o', e, h8⟩
  · exact ⟨hl, .inl h8⟩
  · exact ⟨hl, .inr ⟨b', o', e, h8.keep h0 h1 _ _ _⟩⟩
theorem RepP.toL {B : Nat} {ok : Nat → Prop} {w : World} (hB : ∀ k, ok k → k < B) : ∀ (f : VL) (b o : Nat), RepP ok w b o f → RepL B w b o f := by
  intro f
  induction f with
  | nil => intro b o _; trivial
  | cons k n s kids r ihk ihr =>
    intro b o h
    obtain ⟨g0, g1, g2, g3, g4, g5, g6, ⟨a, cap, g7, hl, g8⟩, g9⟩ := h
    refine ⟨hB _ g0, g1, g2, g3, g4, g5, g6, ⟨a, cap, g7, hl, ?_⟩, ihr _ _ g9⟩
    rcases g8 with g8 | ⟨b', o', e, g8⟩
    · exact .inl g8
    · exact .inr ⟨b', o', e, ihk _ _ g8⟩
theorem RepQ.toS {B : Nat} {ok : Nat → Prop} {w : World} (hB : ∀ k, ok k → k < B) {a : Option Addr} {cap : Nat} {f : VL} (h : RepQ ok w a cap f) : RepS B w a cap f := by
  obtain ⟨hl, h⟩ := h
  rcases h with h8 | ⟨b', o', e, h8⟩
  · exact ⟨hl, .inl h8⟩
  · exact ⟨hl, .inr ⟨b', o', e, h8.toL hB _ _ _⟩⟩

/-- The cells of the values of a forest. -/
def CellsP (ok : Nat → Prop) (w : World) : List Value → VL → Prop
  | cs, .nil => cs = []
  | cs, .cons k n s kids r => ∃ a cap cs', cs = .int .i64 k :: .int .i64 n :: .string s :: .slice a kids.len cap :: cs' ∧ I64 k ∧ I64 n ∧ s.size ≤ maxLen ∧ RepQ ok w a cap kids ∧ CellsP ok w cs' r
def VL.app : VL → VL → VL
  | .nil, g => g
  | .cons k n s kids r, g => .cons k n s kids (r.app g)
theorem VL.app_nil : ∀ f : VL, f.app .nil = f
  | .nil => rfl
  | .cons k n s kids r => by simp only [VL.app, VL.app_nil r]
theorem VL.app_assoc : ∀ f g h : VL, (f.app g).app h = f.app (g.app h)
  | .nil, _, _ => rfl
  | .cons k n s kids r, g, h => by simp only [VL.app, VL.app_assoc r g h]
theorem VL.len_app : ∀ f g : VL, (f.app g).len = f.len + g.len
  | .nil, g => by simp [VL.app, VL.len]
  | .cons k n s kids r, g => by simp only [VL.app, VL.len, VL.len_app r g]; omega
theorem CellsP.keep {ok ok' : Nat → Prop} {w w' : World} (h0 : ∀ k, ok k → ok' k) (h1 : ∀ k, ok k → w'.heap[k]? = w.heap[k]?) : ∀ (f : VL) (cs : List Value), CellsP ok w cs f → CellsP ok' w' cs f
  | .nil, _, h => h
  | .cons k n s kids r, cs, ⟨a, cap, cs', e, g1, g2, g3, g4, g5⟩ => ⟨a, cap, cs', e, g1, g2, g3, g4.keep h0 h1, CellsP.keep h0 h1 r cs' g5⟩
theorem CellsP.snoc {ok : Nat → Prop} {w : World} {k n : Int} {s : ByteArray} {kids : VL} {a : Option Addr} {cap : Nat} (hk : I64 k) (hn : I64 n) (hs : s.size ≤ maxLen) (hr : RepQ ok w a cap kids) :
    ∀ (f : VL) (cs : List Value), CellsP ok w cs f → CellsP ok w (cs ++ [.int .i64 k, .int .i64 n, .string s, .slice a kids.len cap]) (f.app (.cons k n s kids .nil))
  | .nil, cs, h => by
    have : cs = [] := h
    subst this
    exact ⟨a, cap, [], rfl, hk, hn, hs, hr, rfl⟩
  | .cons k' n' s' kids' r, cs, ⟨a', cap', cs', e, g1, g2, g3, g4, g5⟩ => by
    subst e
    exact ⟨a', cap', _, rfl, g1, g2, g3, g4, CellsP.snoc hk hn hs hr r cs' g5⟩
/-- The cells of a row, in memory. -/
theorem CellsP.rep {ok : Nat → Prop} {w : World} (b : Nat) (hb : ok b) : ∀ (f : VL) (cs : List Value) (o : Nat), CellsP ok w cs f → (∀ j u, cs[j]? = some u → w.cell? ⟨b, o + j, none⟩ = some u) → RepP ok w b o f
  | .nil, _, _, _, _ => trivial
  | .cons k n s kids r, cs, o, ⟨a, cap, cs', e, g1, g2, g3, g4, g5⟩, hc => by
    subst e
    refine ⟨hb, g1, g2, g3, hc 0 _ rfl, hc 1 _ rfl, hc 2 _ rfl, ⟨a, cap, hc 3 _ rfl, g4.1, g4.2⟩, CellsP.rep b hb r cs' (o + 4) g5 fun j u hu => ?_⟩
    have := hc (j + 4) u (by simpa using hu)
    rwa [show o + 4 + j = o + (j + 4) from by omega]

/-- A list of values that the call owns. -/
def OwnV (ok : Nat → Prop) (B : Nat) (w : World) (v : Value) (f : VL) : Prop := ∃ cs, w.ownsRow B 24 4 v f.len cs ∧ CellsP ok w cs f
theorem OwnV.nil (ok : Nat → Prop) (B : Nat) (w : World) : OwnV ok B w (.slice none 0 0) .nil := ⟨[], World.ownsRow_nil _ _ _ _, rfl⟩
/-- It is a value's elements. -/
theorem OwnV.rep {ok ok' : Nat → Prop} {B : Nat} {w : World} {v : Value} {f : VL} (h : OwnV ok B w v f) (h0 : ∀ k, ok k → ok' k) (h1 : ∀ k, B ≤ k → k < w.heap.size → ok' k) : ∃ a cap, v = .slice a f.len cap ∧ RepQ ok' w a cap f := by
  obtain ⟨cs, ho, hc⟩ := h
  have hcell := @World.ownsRow.cells w B 24 4 v f.len cs ho
  rcases ho.2 with ⟨rfl, hl⟩ | ⟨g, cap, cur, rfl, hg, hh, h3, h4, r⟩
  · have : f = .nil := VL.nil_of_len hl
    subst this
    exact ⟨none, 0, rfl, by simp [VL.len], .inl ⟨fun _ => rfl, rfl⟩⟩
  · have hg2 := (Array.getElem?_eq_some_iff.1 hh).1
    refine ⟨some ⟨g, 0, none⟩, cap, rfl, by omega, .inr ⟨g, 0, rfl, ?_⟩⟩
    refine CellsP.rep g (h1 g hg hg2) f cs 0 (hc.keep h0 (fun _ _ => rfl)) fun j u hu => ?_
    have := hcell (g := g) rfl j u hu
    rw [addr_add] at this
    exact this

/-! ### The plain decoder -/
structure Val where
  k : Int
  n : Int
  s : ByteArray
  kids : VL

def dlist (one : List UInt8 → Option (Val × List UInt8)) : Nat → List UInt8 → Option (VL × List UInt8)
  | 0, l => some (.nil, l)
  | c + 1, l => match one l with
    | none => none
    | some (v, l1) => (dlist one c l1).map fun x => (.cons v.k v.n v.s v.kids x.1, x.2)
/-- Reads a value in which lists may lie within each other to a depth. -/
def dval : Nat → List UInt8 → Option (Val × List UInt8)
  | _, [] => none
  | 0, t :: l =>
    if t.toNat = 1 then (dnum l).map fun x => (⟨1, zag x.1, ByteArray.empty, .nil⟩, x.2)
    else if t.toNat = 2 then (dnum l).bind fun x => if x.1 ≤ x.2.length then some (⟨2, 0, ⟨(x.2.take x.1).toArray⟩, .nil⟩, x.2.drop x.1) else none
    else none
  | d + 1, t :: l =>
    if t.toNat = 1 then (dnum l).map fun x => (⟨1, zag x.1, ByteArray.empty, .nil⟩, x.2)
    else if t.toNat = 2 then (dnum l).bind fun x => if x.1 ≤ x.2.length then some (⟨2, 0, ⟨(x.2.take x.1).toArray⟩, .nil⟩, x.2.drop x.1) else none
    else if t.toNat = 3 then (dnum l).bind fun x => (dlist (dval d) x.1 x.2).map fun y => (⟨3, 0, ByteArray.empty, y.1⟩, y.2)
    else none
theorem dnum_short {l : List UInt8} {y : Nat} {r : List UInt8} (h : dnum l = some (y, r)) : r.length < l.length := dn_short 9 true l y r h
theorem dlist_short {one : List UInt8 → Option (Val × List UInt8)} (h1 : ∀ l v r, one l = some (v, r) → r.length < l.length) : ∀ (c : Nat) (l : List UInt8) (f : VL) (r : List UInt8), dlist one c l = some (f, r) → r.length + c ≤ l.length
  | 0, l, f, r, h => by simp only [dlist, Option.some.injEq, Prod.mk.injEq] at h; rw [h.2]; omega
  | c + 1, l, f, r, h => by
    simp only [dlist] at h
    cases ho : one l with
    | none => rw [ho] at h; cases h
    | some x =>
      obtain ⟨v, l1⟩ := x
      rw [ho] at h
      simp only at h
      cases hd : dlist one c l1 with
      | none => rw [hd] at h; cases h
      | some y =>
        obtain ⟨g, r'⟩ := y
        rw [hd] at h
        simp only [Option.map_some, Option.some.injEq, Prod.mk.injEq] at h
        have h2 := h1 l v l1 ho
        have h3 := dlist_short h1 c l1 g r' hd
        rw [← h.2]; omega
theorem dval_short : ∀ (d : Nat) (l : List UInt8) (v : Val) (r : List UInt8), dval d l = some (v, r) → r.length < l.length := by
  intro d
  induction d with
  | zero =>
    intro l v r h
    cases l with
    | nil => simp [dval] at h
    | cons t l =>
      simp only [dval] at h
      split at h
      · cases hn : dnum l with
        | none => rw [hn] at h; cases h
        | some x =>
          rw [hn] at h; simp only [Option.map_some, Option.some.injEq, Prod.mk.injEq] at h
          have := dnum_short hn; rw [← h.2]; simp only [List.length_cons]; omega
      · split at h
        · cases hn : dnum l with
          | none => rw [hn] at h; cases h
          | some x =>
            rw [hn] at h; simp only [Option.bind_some] at h
            split at h
            · simp only [Option.some.injEq, Prod.mk.injEq] at h
              have := dnum_short hn; rw [← h.2]; simp only [List.length_cons, List.length_drop]; omega
            · cases h
        · cases h
  | succ d ih =>
    intro l v r h
    cases l with
    | nil => simp [dval] at h
    | cons t l =>
      simp only [dval] at h
      split at h
      · cases hn : dnum l with
        | none => rw [hn] at h; cases h
        | some x =>
          rw [hn] at h; simp only [Option.map_some, Option.some.injEq, Prod.mk.injEq] at h
          have := dnum_short hn; rw [← h.2]; simp only [List.length_cons]; omega
      · split at h
        · cases hn : dnum l with
          | none => rw [hn] at h; cases h
          | some x =>
            rw [hn] at h; simp only [Option.bind_some] at h
            split at h
            · simp only [Option.some.injEq, Prod.mk.injEq] at h
              have := dnum_short hn; rw [← h.2]; simp only [List.length_cons, List.length_drop]; omega
            · cases h
        · split at h
          · cases hn : dnum l with
            | none => rw [hn] at h; cases h
            | some x =>
              rw [hn] at h; simp only [Option.bind_some] at h
              cases hd : dlist (dval d) x.1 x.2 with
              | none => rw [hd] at h; cases h
              | some y =>
                obtain ⟨g, r'⟩ := y
                rw [hd] at h
                simp only [Option.map_some, Option.some.injEq, Prod.mk.injEq] at h
                have h1 := dnum_short hn
                have h2 := dlist_short ih _ _ _ _ hd
                rw [← h.2]; simp only [List.length_cons]; omega
          · cases h
end Go.Proofs.Ytihllbblehjhlaa
