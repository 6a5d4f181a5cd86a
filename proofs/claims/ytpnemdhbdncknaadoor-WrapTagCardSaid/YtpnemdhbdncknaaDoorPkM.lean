/-
  The chapter's examples (sane of chartroomlaw06).
  The walks of chartroomlaw06.CipherBack and CipherPlaces.
  The walk of chartroomlaw06.CipherPlaces.
  The walk of chartroomlaw06.CipherBlocks.
  The walk of chartroomlaw06.CipherLong.
-/
import Derived.Test.YtpnemdhbdncknaaDoorPkJ
import Derived.Lib.SmallJoins
set_option linter.unusedVariables false
set_option linter.unusedSimpArgs false
namespace Go.Proofs.YtpnemdhbdncknaaDoor
open Go.RowKit
set_option linter.unusedVariables false
set_option linter.unusedSimpArgs false

theorem RdV.const (w : World) (l : List UInt8) (hl : l.length ≤ 1000) : RdV (w.alloc (.cells (bvA l) 5 (l.length, l.length + 1))) (.slice (some ⟨w.heap.size, 0, none⟩) l.length l.length) l := by
  refine ⟨_, _, rfl, ⟨by unfold maxLen; omega, .inr ⟨w.heap.size, 0, rfl, by rw [alloc_size]; omega, fun j hj => ?_⟩⟩, Nat.le_refl _, by unfold maxLen; omega, fun e => by cases e⟩
  rw [Nat.zero_add, World.cell?_alloc_mark, bvA_get l j hj]
/-- make([]byte, n), at a step of a drawn region. -/
theorem wp_makeB {o : Oper} {a : Act} {w : World} {K : Act → World → Prop} {Q : Exit → Act → World → Prop} {x y : Operand} (ho : o.op = .makeSlice 24 x y) (n : Nat) (hn : n ≤ 140737488355328) (hx : a.eval x = .int .i64 (n : Int)) (hy : a.eval y = .int .i64 (n : Int))
    (h : ∀ w' g, RdV w' (.slice (some ⟨g, 0, none⟩) n n) (List.replicate n 0) → w.heap.size ≤ g → Below w.heap.size w w' → K (a.put o.dst (.slice (some ⟨g, 0, none⟩) n n)) w') : o.wp Tryd.prog a w K Q := by
  have hr := run_makeZ n hn w
  have ho2 := (OwnB.zeros (B := w.heap.size) (w := w) n hn (Nat.le_refl _)).rdv
  unfold Oper.wp execOp
  simp only [ho, Sem.run_bind, Sem.run_pure, Result.andThen_ok, hx, hy, hr]
  exact h _ _ ho2 (Nat.le_refl _) ((Below.refl _ _).alloc (Nat.le_refl _) _)

/-- The key 0, 1 .. 31, when m bytes stand. -/
def keyTo (m : Nat) : List UInt8 := (List.range 32).map fun i => if i < m then UInt8.ofNat i else 0
theorem keyTo_len (m : Nat) : (keyTo m).length = 32 := by simp [keyTo]
theorem keyTo_set (m : Nat) (h : m < 32) : (keyTo m).set m (UInt8.ofNat m) = keyTo (m + 1) := by
  apply List.ext_getElem
  · simp [keyTo]
  · intro i h1 h2
    rw [List.getElem_set]
    simp only [keyTo, List.getElem_map, List.getElem_range]
    by_cases e : m = i
    · subst e; rw [if_pos rfl, if_pos (by omega)]
    · rw [if_neg e]
      by_cases h : i < m
      · rw [if_pos h, if_pos (by omega)]
      · rw [if_neg h, if_neg (by omega)]
def exK : List UInt8 := (List.range 32).map UInt8.ofNat
theorem keyTo_full : keyTo 32 = exK := by decide +kernel
theorem exK_len : exK.length = 32 := by decide +kernel
def exN : List UInt8 := [0, 0, 0, 9, 0, 0, 0, 0x4a, 0, 0, 0, 0]
def exZ : List UInt8 := List.replicate 12 0
def exH : List UInt8 := [104, 101, 97, 100]
def exB : List UInt8 := [98, 111, 100, 121]

end Go.Proofs.YtpnemdhbdncknaaDoor

namespace Go.Proofs.YtpnemdhbdncknaaDoor
open Go.RowKit
set_option linter.unusedVariables false
set_option linter.unusedSimpArgs false

theorem Seal_le (k n : List UInt8) (hk : k.length = 32) (hn : n.length = 12) (hd l : List UInt8) (ah : Option Addr) (p ch : Nat) (a : Option Addr) (q cap : Nat) (w : World) (hT : Tab w) (hh : RdV w (.slice ah p ch) hd) (hl : RdV w (.slice a q cap) l) (hhl : hd.length ≤ 70368744100000) (h : l.length ≤ 65536) :
    Calls Tryd.prog 18 #[.agg (bvA k), .agg (bvA n), .slice ah p ch, .slice a q cap] w (AnsO (sealC k n hd l) 0 w) := by
  have := Seal_any k n hk hn hd l ah p ch a q cap w hT hh hl hhl
  unfold sealX streamE at this
  rwa [if_pos h, if_pos h] at this
theorem Stream_le (k n : List UInt8) (hk : k.length = 32) (hn : n.length = 12) (l : List UInt8) (a : Option Addr) (q cap : Nat) (w : World) (hl : RdV w (.slice a q cap) l) (h : l.length ≤ 65536) :
    Calls Tryd.prog 36 #[.agg (bvA k), .agg (bvA n), .slice a q cap] w (AnsO (cstream k n l) 0 w) := by
  have := Stream_any k n hk hn l a q cap w hl
  unfold streamX streamE at this
  rwa [if_pos h, if_pos h] at this
theorem Open_sealed (k n : List UInt8) (hk : k.length = 32) (hn : n.length = 12) (hd b : List UInt8) (ah : Option Addr) (p ch : Nat) (a : Option Addr) (q cap : Nat) (w : World) (hT : Tab w) (hh : RdV w (.slice ah p ch) hd) (hl : RdV w (.slice a q cap) (sealC k n hd b)) (hhl : hd.length ≤ 70368744100000) (h : b.length ≤ 65536) :
    Calls Tryd.prog 30 #[.agg (bvA k), .agg (bvA n), .slice ah p ch, .slice a q cap] w (AnsO b 0 w) := by
  have := Open_any k n hk hn hd _ ah p ch a q cap w hT hh hl hhl
  unfold openX openE at this
  rwa [if_pos (opens_seal _ _ _ _ h), if_pos (opens_seal _ _ _ _ h), open_seal] at this
theorem RdV.len {w : World} {a : Option Addr} {q c : Nat} {l : List UInt8} (h : RdV w (.slice a q c) l) : q = l.length := by
  obtain ⟨a', c', e, _⟩ := h.form
  injection e
theorem RdV.cut {w : World} {a : Option Addr} {q c : Nat} {l : List UInt8} (h : RdV w (.slice a q c) l) (k : Nat) (hk : k ≤ q) : RdV w (.slice a k c) (l.take k) := by
  have hq := h.len
  obtain ⟨a', c', e, h1, h2, h3, h4⟩ := h.form
  injection e with e1 e2 e3
  subst e1; subst e3
  exact ⟨a, c, by rw [List.length_take, Nat.min_eq_left (by omega)], h1.take k, by rw [List.length_take]; omega, h3, h4⟩
theorem RdV.caps {w : World} {a : Option Addr} {q c : Nat} {l : List UInt8} (h : RdV w (.slice a q c) l) : q ≤ c := by
  obtain ⟨a', c', e, h1, h2, h3, h4⟩ := h.form
  injection e with e1 e2 e3
  omega

end Go.Proofs.YtpnemdhbdncknaaDoor

namespace Go.Proofs.YtpnemdhbdncknaaDoor
open Go.RowKit
set_option linter.unusedVariables false
set_option linter.unusedSimpArgs false

theorem and_mask (c : Int) (m : Nat) (hm : m < 9223372036854775808) : ∃ x : Nat, bits .and .i64 c (m : Int) = (x : Int) ∧ x ≤ m := by
  refine ⟨(BitVec.ofInt 64 c).toNat &&& m, ?_, Nat.and_le_right⟩
  show IntKind.i64.wrap ((BitVec.ofInt 64 c &&& BitVec.ofInt 64 (m : Int)).toNat : Int) = _
  have hle : (BitVec.ofInt 64 c).toNat &&& m ≤ m := Nat.and_le_right
  rw [BitVec.ofInt_natCast, BitVec.toNat_and, BitVec.toNat_ofNat, Nat.mod_eq_of_lt (by omega : m < 2 ^ 64)]
  generalize (BitVec.ofInt 64 c).toNat &&& m = x at *
  exact IntWalk.i64_in _ (by omega)
theorem cstream_zeros (k n : List UInt8) (q i : Nat) (h : i < q) : (cstream k n (List.replicate q 0)).getD i 0 = cbyte k n i := by
  rw [List.getD, cstream_get _ _ _ i (by rw [List.length_replicate]; exact h), List.getElem_replicate, UInt8.zero_xor]; rfl
theorem cstream_getD (k n l : List UInt8) (i : Nat) (h : i < l.length) : (cstream k n l).getD i 0 = l.getD i 0 ^^^ cbyte k n i := by
  rw [List.getD, cstream_get _ _ _ i h, List.getD, List.getElem?_eq_getElem h]; rfl
theorem RdV.cell {w : World} {a : Option Addr} {q c : Nat} {l : List UInt8} (h : RdV w (.slice a q c) l) (hq : 0 < q) : ∃ b o, a = some ⟨b, o, none⟩ ∧ b < w.heap.size ∧ ∀ j, j < q → w.cell? ⟨b, o + j, none⟩ = some (.int .u8 ((l.getD j 0).toNat : Int)) := by
  have hl := h.len
  obtain ⟨a', c', e, h1, _⟩ := h.form
  injection e with e1 e2 e3
  subst e1
  obtain ⟨b, o, rfl, hb, hc⟩ := h1.at_ (by omega)
  refine ⟨b, o, rfl, hb, fun j hj => ?_⟩
  rw [hc j (by omega), List.getD, List.getElem?_eq_getElem (by omega)]; rfl

end Go.Proofs.YtpnemdhbdncknaaDoor

namespace Go.Proofs.YtpnemdhbdncknaaDoor
open Go.RowKit
set_option linter.unusedVariables false
set_option linter.unusedSimpArgs false

/-- The first m blocks. -/
def blocksTo (k n : List UInt8) : Nat → List UInt8
  | 0 => []
  | m + 1 => blocksTo k n m ++ cblock k n (m + 1)
theorem blocksTo_len (k n : List UInt8) : ∀ m, (blocksTo k n m).length = 64 * m
  | 0 => rfl
  | m + 1 => by rw [blocksTo, List.length_append, blocksTo_len k n m, cblock_len]; omega
theorem blocksTo_get (k n : List UInt8) : ∀ m i, i < 64 * m → (blocksTo k n m)[i]? = (cblock k n (1 + i / 64))[i % 64]?
  | 0, i, h => by omega
  | m + 1, i, h => by
    rw [blocksTo]
    by_cases h1 : i < 64 * m
    · rw [List.getElem?_append_left (by rw [blocksTo_len]; exact h1), blocksTo_get k n m i h1]
    · rw [List.getElem?_append_right (by rw [blocksTo_len]; omega), blocksTo_len, show 1 + i / 64 = m + 1 by omega, show i - 64 * m = i % 64 by omega]
theorem stream_blocks (k n : List UInt8) (m q : Nat) (h : q ≤ 64 * m) : cstream k n (List.replicate q 0) = (blocksTo k n m).take q := by
  apply List.ext_getElem?
  intro i
  by_cases hi : i < q
  · rw [cstream_get _ _ _ i (by rw [List.length_replicate]; exact hi), List.getElem_replicate, UInt8.zero_xor, List.getElem?_take, if_pos hi, blocksTo_get k n m i (by omega)]
    unfold cbyte
    rw [List.getD, List.getElem?_eq_getElem (by rw [cblock_len]; omega)]; rfl
  · rw [List.getElem?_eq_none (by rw [cstream_len, List.length_replicate]; omega), List.getElem?_eq_none (by rw [List.length_take, blocksTo_len]; omega)]
theorem OwnB.emptyB {B : Nat} {w : World} (hB : B ≤ w.heap.size) : OwnB B (w.alloc (.cells #[] 5)) (.slice (some ⟨w.heap.size, 0, none⟩) 0 0) [] :=
  World.ownsRow_made w #[] 0 hB (by unfold maxLen; omega) (by rfl)
theorem RdB.rdv {B : Nat} {w : World} {a : Option Addr} {c : Nat} {l : List UInt8} (h : RdB B w a l) (hB : B ≤ w.heap.size) (h1 : l.length ≤ c) (h2 : c ≤ maxLen) (h3 : a = none → c = 0) : RdV w (.slice a l.length c) l := ⟨a, c, rfl, h.mono hB, h1, h2, h3⟩

end Go.Proofs.YtpnemdhbdncknaaDoor

namespace Go.Proofs.YtpnemdhbdncknaaDoor
open Go.RowKit
set_option linter.unusedVariables false
set_option linter.unusedSimpArgs false

/-- An append elsewhere. -/
theorem RdV.grew {w w' : World} {v v' : Value} {b o q c : Nat} {l : List UInt8} (h : RdV w (.slice (some ⟨b, o, none⟩) q c) l) (hg : Grew w v w' v') (hne : v.ownBlock ≠ some b) : RdV w' (.slice (some ⟨b, o, none⟩) q c) l := by
  obtain ⟨a', c', e, ⟨h1, h2⟩, h3⟩ := h.form
  injection e with e1 e2 e3
  subst e1; subst e2; subst e3
  refine ⟨_, _, rfl, ⟨h1, ?_⟩, h3⟩
  rcases h2 with h2 | ⟨b', o', e, hb, hc⟩
  · exact .inl h2
  · injection e with e; injection e with e1 e2
    subst e1; subst e2
    exact .inr ⟨b, o, rfl, Nat.lt_of_lt_of_le hb hg.size, fun j hj => (hg.cell (p := ⟨b, o + j, none⟩) hb hne).trans (hc j hj)⟩
/-- []byte{}, []byte{c}: at a step of a drawn region. -/
theorem wp_nilB0 {o : Oper} {a : Act} {w : World} {K : Act → World → Prop} {Q : Exit → Act → World → Prop} (ho : o.op = .buildSlice 24 0 #[])
    (h : ∀ w' g, OwnB w.heap.size w' (.slice (some ⟨g, 0, none⟩) 0 0) [] → g = w.heap.size → w'.heap.size = w.heap.size + 1 → Below w.heap.size w w' → K (a.put o.dst (.slice (some ⟨g, 0, none⟩) 0 0)) w') : o.wp Tryd.prog a w K Q := by
  have hh := h _ _ (OwnB.emptyB (Nat.le_refl _)) rfl (alloc_size _ _) ((Below.refl _ _).alloc (Nat.le_refl _) _)
  unfold Oper.wp execOp
  have hr : (Instr.buildSlice 24 0 #[]).run Tryd.prog w = .ok (.slice (some ⟨w.heap.size, 0, none⟩) 0 0) (w.alloc (.cells #[] 5)) := by kernel_rfl
  simp only [ho, Sem.run_bind, Sem.run_pure, Result.andThen_ok, Array.map_empty, List.map_toArray, List.map_nil, hr]
  exact hh
theorem RdV.one (w : World) (c : UInt8) : RdV (w.alloc (.cells #[bv c] 5)) (.slice (some ⟨w.heap.size, 0, none⟩) 1 1) [c] := (OwnB.built (B := w.heap.size) c (Nat.le_refl _)).rdv
theorem u8_of {y : Int} (h : (Lit.int .u8 y).wf = true) : ∃ c : UInt8, y = (c.toNat : Int) := by
  have h1 : 0 ≤ y ∧ y < 256 := by
    have := bounds_u8 h
    omega
  refine ⟨UInt8.ofNat y.toNat, ?_⟩
  rw [UInt8.toNat_ofNat']
  omega

end Go.Proofs.YtpnemdhbdncknaaDoor
