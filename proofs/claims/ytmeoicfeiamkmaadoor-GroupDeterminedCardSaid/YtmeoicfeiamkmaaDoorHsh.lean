/-
  The hasher of package digest: write, end, newHasher.
-/
import Derived.Test.YtmeoicfeiamkmaaDoorAbs
import Derived.RegionTactic
import Derived.ChangeAlike
import Derived.BigRegion
namespace Go.Proofs.YtmeoicfeiamkmaaDoor
open Go.RowKit

/-- The state after the first k blocks of m. -/
def stN (m : List UInt8) : Nat → List Nat
  | 0 => hNums
  | k + 1 => comp (stN m k) (wordsOf ((m.drop (64 * k)).take 64))
theorem stN_app (m l : List UInt8) : ∀ k, 64 * k ≤ m.length → stN (m ++ l) k = stN m k
  | 0, _ => rfl
  | k + 1, h => by
    simp only [stN]
    rw [stN_app m l k (by omega)]
    congr 2
    rw [List.drop_append_of_le_length (by omega), List.take_append_of_le_length (by rw [List.length_drop]; omega)]
theorem comp_len (st blk : List Nat) : (comp st blk).length = 8 := addTo_len _ _ _
theorem stN_len (m : List UInt8) (k : Nat) : (stN m k).length = 8 := by cases k with
  | zero => rfl
  | succ k => exact comp_len _ _
theorem wvl_len (st : List Nat) (h : st.length = 8) : (wv st).toList.length = 8 := by rw [Array.length_toList, wv_size, h]
theorem row_tail (st : List Nat) (part : List UInt8) (t : List Value) (i : Nat) (hst : st.length = 8) (hp : part.length = 64) : ((wv st).toList ++ (part.map bv ++ t))[72 + i]? = t[i]? := by
  have h1 := wvl_len st hst
  have h2 : (part.map bv).length = 64 := by rw [List.length_map, hp]
  rw [List.getElem?_append_right (by omega), List.getElem?_append_right (by omega), h1, h2]
  congr 1; omega
theorem set_tail (st : List Nat) (part : List UInt8) (t : List Value) (i : Nat) (v : Value) (hst : st.length = 8) (hp : part.length = 64) : ((wv st).toList ++ (part.map bv ++ t)).set (72 + i) v = (wv st).toList ++ (part.map bv ++ t.set i v) := by
  have h1 := wvl_len st hst
  have h2 : (part.map bv).length = 64 := by rw [List.length_map, hp]
  rw [List.set_append_right _ _ (by omega), List.set_append_right _ _ (by omega), h1, h2]
  congr 3; omega

/-- A hasher at block R, field by field. -/
def HF (w : World) (R : Nat) (st : List Nat) (part : List UInt8) (used : Int) (size : Int) : Prop := part.length = 64 ∧ HR w R st (part.map bv ++ [.int .i64 used, .int .u64 size])
theorem HF.row {w : World} {R : Nat} {st : List Nat} {part : List UInt8} {u s : Int} (h : HF w R st part u s) (i : Nat) : w.cell? ⟨R, i, none⟩ = ((wv st).toList ++ (part.map bv ++ [.int .i64 u, .int .u64 s]))[i]? := by
  rw [cell_of_row w R i _ _ _ h.2.2]; simp
theorem HF.used {w : World} {R : Nat} {st : List Nat} {part : List UInt8} {u s : Int} (h : HF w R st part u s) : w.cell? ⟨R, 72, none⟩ = some (.int .i64 u) := by
  rw [h.row, show (72 : Nat) = 72 + 0 from rfl, row_tail _ _ _ _ h.2.1 h.1]; rfl
theorem HF.size {w : World} {R : Nat} {st : List Nat} {part : List UInt8} {u s : Int} (h : HF w R st part u s) : w.cell? ⟨R, 73, none⟩ = some (.int .u64 s) := by
  rw [h.row, show (73 : Nat) = 72 + 1 from rfl, row_tail _ _ _ _ h.2.1 h.1]; rfl
theorem HF.part {w : World} {R : Nat} {st : List Nat} {part : List UInt8} {u s : Int} (h : HF w R st part u s) (j : Nat) (hj : j < part.length) : w.cell? ⟨R, 8 + j, none⟩ = some (bv part[j]) := by
  rw [h.row, List.getElem?_append_right (by rw [Array.length_toList, wv_size, h.2.1]; omega), Array.length_toList, wv_size, h.2.1, Nat.add_sub_cancel_left, List.getElem?_append_left (by simpa using hj)]
  simp [hj]
theorem HF.frozen {w : World} {R : Nat} {st : List Nat} {part : List UInt8} {u s : Int} (h : HF w R st part u s) (i : Nat) : w.frozen? ⟨R, i, none⟩ = false := h.2.frozen i
theorem HF.drewN {w : World} {R : Nat} {st : List Nat} {part : List UInt8} {u s : Int} (h : HF w R st part u s) (n : Nat) : HF (w.drewN n) R st part u s := h
theorem HF.lt {w : World} {R : Nat} {st : List Nat} {part : List UInt8} {u s : Int} (h : HF w R st part u s) : R < w.heap.size := h.2.lt
theorem HF.below {B : Nat} {w w' : World} {R : Nat} {st : List Nat} {part : List UInt8} {u s : Int} (h : HF w R st part u s) (hb : Below B w w') (hR : R < B) : HF w' R st part u s := ⟨h.1, h.2.below hb hR⟩
theorem HF.setRow {w w' : World} {R : Nat} {st : List Nat} {part part' : List UInt8} {u s u' s' : Int} (h : HF w R st part u s) (hp : part'.length = 64) (c : List Value) (hc : c = (wv st).toList ++ (part'.map bv ++ [.int .i64 u', .int .u64 s'])) (hw : w'.heap[R]? = some (.cells c.toArray 55 (0, 0))) : HF w' R st part' u' s' := by
  subst hc; exact ⟨hp, h.2.1, hw⟩
theorem HF.setUsed {w : World} {R : Nat} {st : List Nat} {part : List UInt8} {u s : Int} (h : HF w R st part u s) (u' : Int) : HF (w.setCell ⟨R, 72, none⟩ (.int .i64 u')) R st part u' s := by
  refine h.setRow h.1 _ rfl ?_
  rw [heap_setCell_same w R 72 _ _ _ h.2.2]
  congr 2
  apply Array.ext'
  rw [Array.toList_setIfInBounds]
  exact set_tail _ _ _ 0 _ h.2.1 h.1
theorem HF.setSize {w : World} {R : Nat} {st : List Nat} {part : List UInt8} {u s : Int} (h : HF w R st part u s) (s' : Int) : HF (w.setCell ⟨R, 73, none⟩ (.int .u64 s')) R st part u s' := by
  refine h.setRow h.1 _ rfl ?_
  rw [heap_setCell_same w R 73 _ _ _ h.2.2]
  congr 2
  apply Array.ext'
  rw [Array.toList_setIfInBounds]
  exact set_tail _ _ _ 1 _ h.2.1 h.1

/-- A copy of bytes into the part, from place u on. -/
theorem splice_part (st : List Nat) (part l : List UInt8) (t : List Value) (u : Nat) (hst : st.length = 8) (hu : u + l.length ≤ part.length) :
    splice ((wv st).toList ++ (part.map bv ++ t)) (8 + u) (l.map bv) = (wv st).toList ++ ((splice part u l).map bv ++ t) := by
  have hw : (wv st).toList.length = 8 := by rw [Array.length_toList, wv_size, hst]
  unfold splice
  rw [← hw, List.take_length_add_append, List.length_map, Nat.add_assoc, List.drop_length_add_append, List.take_append_of_le_length (by rw [List.length_map]; omega), List.drop_append_of_le_length (by rw [List.length_map]; omega)]
  simp [List.append_assoc, List.map_take, List.map_drop]

/-- The hasher at block R to which m came. -/
def HM (w : World) (R : Nat) (m : List UInt8) : Prop := ∃ part, HF w R (stN m (m.length / 64)) part (m.length % 64 : Nat) (m.length : Nat) ∧ part.take (m.length % 64) = m.drop (64 * (m.length / 64))

theorem HM.lt {w : World} {R : Nat} {m : List UInt8} (h : HM w R m) : R < w.heap.size := by
  obtain ⟨_, hf, _⟩ := h
  exact hf.lt
theorem HM.drew {w : World} {R : Nat} {m : List UInt8} (h : HM w R m) : HM w.drew R m := h
/-- Bytes that can be read, outside block R. -/
def RdX (R : Nat) (w : World) (a : Option Addr) (l : List UInt8) : Prop :=
  l.length ≤ maxLen ∧ (l = [] ∨ ∃ b o, a = some ⟨b, o, none⟩ ∧ b < w.heap.size ∧ b ≠ R ∧ ∀ j (h : j < l.length), w.cell? ⟨b, o + j, none⟩ = some (bv l[j]))

theorem RdX.at_ {R : Nat} {w : World} {a : Option Addr} {l : List UInt8} (h : RdX R w a l) (h0 : 0 < l.length) : ∃ ad, a = some ad ∧ ∀ (j : Nat) (x : UInt8), l[j]? = some x → w.cell? (ad.add j) = some (bv x) := by
  rcases h.2 with h2 | ⟨b, o, ha, _, _, hc⟩
  · subst h2; simp at h0
  · refine ⟨_, ha, fun j v hv => ?_⟩
    obtain ⟨hj, e2⟩ := List.getElem?_eq_some_iff.1 hv
    have e : (⟨b, o, none⟩ : Addr).add j = ⟨b, o + j, none⟩ := by unfold Addr.add; split <;> simp_all
    rw [e, hc j hj, e2]
theorem HF.copy {w w' : World} {R : Nat} {st : List Nat} {part r : List UInt8} {u s : Int} (o : Nat) (h : HF w R st part u s) (hr : o + r.length ≤ 64) (h3 : w'.heap[R]? = some (.cells (splice ((wv st).toList ++ (part.map bv ++ [Value.int .i64 u, Value.int .u64 s])) (8 + o) (r.map bv)).toArray 55 (0, 0))) :
    HF w' R st (splice part o r) u s := by
  refine h.setRow ?_ _ ?_ h3
  · have := h.1
    simp [splice]; omega
  · exact splice_part st part r _ o h.2.1 (by rw [h.1]; exact hr)
theorem HF.copy0 {w w' : World} {R : Nat} {st : List Nat} {part r : List UInt8} {u s : Int} (h : HF w R st part u s) (hr : r.length ≤ 64) (h3 : w'.heap[R]? = some (.cells (splice ((wv st).toList ++ (part.map bv ++ [Value.int .i64 u, Value.int .u64 s])) 8 (r.map bv)).toArray 55 (0, 0))) :
    HF w' R st (splice part 0 r) u s := h.copy 0 (by omega) h3
theorem splice0_take (part r : List UInt8) : (splice part 0 r).take r.length = r := by
  unfold splice; simp
theorem HM.fill {w : World} {R : Nat} {M part r : List UInt8} {q : Nat} {u s : Int} (h : HF w R (stN M q) part u s) (hu : u = (r.length : Nat)) (hs : s = (M.length : Nat)) (hq : 64 * q + r.length = M.length) (hr : r.length < 64) (hd : M.drop (64 * q) = r) (hp : part.take r.length = r) : HM w R M := by
  subst hu hs
  have e1 : M.length / 64 = q := by omega
  have e2 : M.length % 64 = r.length := by omega
  refine ⟨part, ?_, ?_⟩
  · rw [e1, e2]; exact h
  · rw [e1, e2, hd, hp]
theorem HM.more {w w' : World} {R u : Nat} {m part l : List UInt8} {sz : Int} (h : HF w R (stN m (m.length / 64)) (splice part u l) (u : Nat) sz) (hu : m.length % 64 = u) (hpt : part.take u = m.drop (64 * (m.length / 64))) (hu0 : 0 < u) (hl : u + l.length < 64) (hs : sz = ((m ++ l).length : Nat)) (hw : w' = w.setCell ⟨R, 72, none⟩ (.int .i64 ((u : Int) + (l.length : Int)))) : HM w' R (m ++ l) := by
  subst hw hs
  have e1 : (m ++ l).length / 64 = m.length / 64 := by rw [List.length_append]; omega
  have e2 : (m ++ l).length % 64 = u + l.length := by rw [List.length_append]; omega
  refine ⟨splice part u l, ?_, ?_⟩
  · rw [e1, e2, stN_app m l _ (by omega), Int.natCast_add]
    exact h.setUsed _
  · rw [e1, e2, List.drop_append_of_le_length (by omega), ← hpt]
    have h1 := h.1
    unfold splice at h1 ⊢
    simp only [List.length_append, List.length_take, List.length_drop] at h1
    rw [← List.append_assoc, List.take_append_of_le_length (by simp; omega), List.take_of_length_le (by simp; omega)]
/-- What a slice's length is. -/
def sliceLen : Value → Nat
  | .slice _ n _ => n
  | _ => 0
theorem wordsOf_len (l : List UInt8) : (wordsOf l).length = 16 := by simp [wordsOf]
theorem RdX.grown {R : Nat} {w w' : World} {a : Option Addr} {l : List UInt8} (h : RdX R w a l) (hg : w.grownBy w' (some R)) : RdX R w' a l := by
  refine ⟨h.1, ?_⟩
  rcases h.2 with h2 | ⟨b, o, ha, hb, hn, hc⟩
  · exact .inl h2
  · exact .inr ⟨b, o, ha, Nat.lt_of_lt_of_le hb hg.size, hn, fun j hj => (World.cell?_of_block (w := w) (a := ⟨b, o + j, none⟩) (hg.block b hb (fun e => hn (by injection e)))).trans (hc j hj)⟩
theorem RdX.below {R : Nat} {w w' : World} {a : Option Addr} {l : List UInt8} (h : RdX R w a l) (hg : Below w.heap.size w w') : RdX R w' a l :=
  h.grown ⟨hg.os, hg.tape, hg.output, hg.size, fun k hk _ => hg.block k hk⟩

/-- The loop of write: the whole message M, of which q blocks have been absorbed; r is left. -/
structure WRel (R : Nat) (M : List UInt8) (q : Nat) (a : Option Addr) (r : List UInt8) (c : Nat) (w wr : World) : Prop where
  cap : r.length ≤ c
  capMax : c ≤ maxLen
  read : RdX R wr a r
  row : ∃ part used, HF wr R (stN M q) part used (M.length : Nat)
  grown : w.grownBy wr (some R)
theorem WRel.at_ {R : Nat} {M : List UInt8} {q : Nat} {a : Option Addr} {r : List UInt8} {cap : Nat} {w wr : World} (h : WRel R M q a r cap w wr) (hr : 0 < r.length) : ∃ b o, a = some ⟨b, o, none⟩ ∧ b < wr.heap.size ∧ b ≠ R ∧ ∀ j (h : j < r.length), wr.cell? ⟨b, o + j, none⟩ = some (bv r[j]) := by
  rcases h.read.2 with h2 | h2
  · subst h2; simp at hr
  · exact h2
theorem WRel.next {R : Nat} {M : List UInt8} {q cap b o : Nat} {r : List UInt8} {w wr w1 w2 : World} {part : List UInt8} {used : Int} (h : WRel R M q (some ⟨b, o, none⟩) r cap w wr)
    (hb : Below wr.heap.size wr w1) (hg : w1.grownBy w2 (some R)) (hf : HF wr R (stN M q) part used (M.length : Nat)) (hD : M.drop (64 * q) = r) (h64 : 64 ≤ r.length)
    (hr : HR w2 R (comp (stN M q) (wordsOf (r.take 64))) (part.map bv ++ [.int .i64 used, .int .u64 (M.length : Nat)])) {a' : Option Addr} (ha : a' = if cap = 64 then some ⟨b, o, none⟩ else some ⟨b, o + 64, none⟩) :
    WRel R M (q + 1) a' (r.drop 64) (cap - 64) w w2 := by
  have h0 := h.cap
  have h1 := h.capMax
  have hg2 : wr.grownBy w2 (some R) := grown_trans ⟨hb.os, hb.tape, hb.output, hb.size, fun k hk _ => hb.block k hk⟩ hg
  refine ⟨by rw [List.length_drop]; omega, by omega, ?_, ⟨part, used, hf.1, ?_⟩, grown_trans h.grown hg2⟩
  · have hr2 := h.read.grown hg2
    refine ⟨by rw [List.length_drop]; have := hr2.1; omega, ?_⟩
    rcases hr2.2 with h2 | ⟨b', o', e, hb2, hbR, hc⟩
    · subst h2; simp at h64
    · injection e with e
      injection e with e1 e2
      subst e1 e2
      by_cases hc64 : cap = 64
      · left
        exact List.drop_eq_nil_of_le (by omega)
      · right
        rw [if_neg hc64] at ha
        refine ⟨b, o + 64, ha, hb2, hbR, fun j hj => ?_⟩
        rw [List.length_drop] at hj
        rw [Nat.add_assoc, hc (64 + j) (by omega), List.getElem_drop]
  · simp only [stN]
    rw [hD]
    exact hr

set_option maxRecDepth 100000 in
set_option maxHeartbeats 1600000 in
theorem write_zero (R : Nat) (m : List UInt8) (a : Option Addr) (cap : Nat) (l : List UInt8) (w : World) (hT : Tab w) (hR : 4 ≤ R) (h : HM w R m) (hu : m.length % 64 = 0) (hl : RdX R w a l) (hcap : l.length ≤ cap) (hc2 : cap ≤ maxLen) (hn : m.length + l.length ≤ 1152921504606846976) :
    Calls Tryd.prog 33 #[.pointer (some ⟨R, 0, none⟩), .slice a l.length cap] w fun e w' => e = .returned (.tuple #[]) ∧ HM w' R (m ++ l) ∧ w.grownBy w' (some R) := by
  have hc2' := hc2
  have hsz1 : (Tryd.prog.info? 5).map (·.size) = some 1 := by kernel_rfl
  unfold maxLen at hc2
  obtain ⟨part, hf, _⟩ := h
  rw [hu] at hf
  have h72 := hf.used
  have h73 := hf.size
  have f72 := hf.frozen 72
  have f73 := hf.frozen 73
  have HT := Lib.hid hT
  have HP : Hid (64 * (m.length / 64) = m.length + 0 ∧ 0 ≤ l.length) := ⟨by omega, by omega⟩
  have HREL : Hid (WRel R (m ++ l) (m.length / 64) a (l.drop 0) cap w (w.setCell ⟨R, 73, none⟩ (.int .u64 ((m.length : Int) + (l.length : Int))))) := by
    have c1 : w.grownBy (w.setCell ⟨R, 73, none⟩ (.int .u64 ((m.length : Int) + (l.length : Int)))) (some R) := grown_set ⟨rfl, rfl, rfl, Nat.le_refl _, fun _ _ _ => rfl⟩ 73 _
    refine ⟨hcap, hc2', hl.grown c1, ⟨part, ((0 : Nat) : Int), ?c2⟩, c1⟩
    case c2 =>
      rw [stN_app m l _ (by omega), List.length_append, Int.natCast_add]
      exact hf.setSize _
  clear hf hT hl hu hc2'
  go_enter Tryd.func33, Tryd.ntmps33
  go_wp2_with fail
  go_loopw [1] (fun s wr => ∃ (q p : Nat) (a' : Option Addr) (cap' : Nat), 64 * q = m.length + p ∧ p ≤ l.length ∧ s = .slice a' (l.drop p).length cap' ∧ WRel R (m ++ l) q a' (l.drop p) cap' w wr) (fun s _ => sliceLen s)
  case atStart => exact ⟨_, _, _, _, HP.out.1, HP.out.2, rfl, HREL.out⟩
  case round =>
    clear HREL HP
    obtain ⟨q, p, a', cap', hq, hp, rfl, hrel⟩ := hrel
    have HQ := Lib.hid hq
    have HPL := Lib.hid hp
    have HD : Hid ((m ++ l).drop (64 * q) = l.drop p) := by show _ = _; rw [hq]; simp
    clear hq hp
    obtain ⟨r, hr⟩ : ∃ r, r = l.drop p := ⟨_, rfl⟩
    rw [← hr] at hrel HD ⊢
    have HRR := Lib.hid hr
    clear hr
    have hca := hrel.cap
    have hcb := hrel.capMax
    unfold maxLen at hcb
    have HREL := Lib.hid hrel
    have hT1 := HT.out.grown hrel.grown hR
    have HT1 := Lib.hid hT1
    clear hrel hT1
    by_cases h64 : 64 ≤ r.length
    · obtain ⟨b, o, rfl, hb, hbR, hcell⟩ := HREL.out.at_ (by omega)
      have HCELL := Lib.hid hcell
      clear hcell
      obtain ⟨part, used, hf⟩ := HREL.out.row
      have HF1 := Lib.hid hf
      clear hf
      go_wp2_with fail
      refine (words_any b o r.length cap' (r.take 64) _ h64 (by unfold maxLen; omega) hca hb (by rw [List.length_take]; omega) (fun j hj => by rw [HCELL.out j (by rw [List.length_take] at hj; omega), List.getElem_take])).mono ?_
      rintro e w1 ⟨rfl, hb1⟩
      have HB1 := Lib.hid hb1
      clear hb1
      go_wp2_with fail
      refine (absorb_any R _ _ _ _ (HT1.out.below HB1.out HT1.out.lt) hR (HF1.out.2.below HB1.out HF1.out.lt) (wordsOf_len _)).mono ?_
      rintro e w2 ⟨rfl, hr2, hg2⟩
      have HN : Hid (WRel R (m ++ l) (q + 1) (if cap' = 64 then some ⟨b, o, none⟩ else some ⟨b, o + 64, none⟩) (r.drop 64) (cap' - 64) w w2) := by
        have hU := grown_trans (grown_call HREL.out.grown HB1.out) hg2
        refine WRel.next HREL.out HB1.out hg2 HF1.out HD.out h64 ?_ rfl
        rw [← HRR.out] at *
        exact hr2
      have HD2 : Hid (r.drop 64 = l.drop (p + 64)) := by show _ = _; rw [HRR.out, List.drop_drop]
      have HLN : Hid ((l.drop (p + 64)).length = r.length - 64) := by show _ = _; rw [← HD2.out, List.length_drop]
      clear hr2 hg2
      go_wp2_with fail
      all_goals
        go_roundw
        case rel => exact ⟨q + 1, p + 64, _, _, by have := HQ.out; omega, by have := HPL.out; have h := HRR.out; rw [h, List.length_drop] at h64; omega, by rw [HLN.out], by rw [← HD2.out]; exact HN.out⟩
        case measure => simp [sliceLen]; omega
    · obtain ⟨part, used, hf⟩ := HREL.out.row
      obtain ⟨sz, hsz⟩ : ∃ sz : Int, sz = ((m ++ l).length : Nat) := ⟨_, rfl⟩
      rw [← hsz] at hf
      have HSZ := Lib.hid hsz
      clear hsz
      have HF1 := Lib.hid hf
      have HRD := Lib.hid HREL.out.read
      have HGR := Lib.hid HREL.out.grown
      clear hf
      go_wp2_with (refine wpList_copyRow rfl (.tmp 70) (.tmp 71) 22 22 rfl 5 Tryd.underlying22 hsz1 (some ⟨R, 8, none⟩) a' 64 64 r.length cap' rfl rfl R 8 _ 55 HF1.out.2.2 (r.map bv) ?c1 ?c2 ?c3 ?c4 ?c5)
      case c1 => rw [List.length_map]; exact (Nat.min_eq_left (by omega)).symm
      case c2 => intro h0; exact HRD.out.at_ (by simpa using h0)
      case c3 => have h1 := HF1.out.1; have h2 := HF1.out.2.1; simp [wv_size, h1, h2]; omega
      case c4 => intro v hv; obtain ⟨x, _, rfl⟩ := List.mem_map.1 hv; rfl
      intro w3 h3 hg3
      have HF3 := Lib.hid (HF1.out.copy0 (r := r) (by omega) h3)
      have HG3 := Lib.hid (grown_trans HGR.out hg3)
      clear h3 hg3
      have h72 := HF3.out.used
      have f72 := HF3.out.frozen 72
      go_wp2_with fail
      go_end0
      exact ⟨rfl, HM.fill (HF3.out.setUsed _) rfl HSZ.out (by have := HQ.out; have := HPL.out; have h := HRR.out; rw [h, List.length_drop]; simp; omega) (by omega) HD.out (splice0_take _ _), grown_set HG3.out 72 _⟩
/-- part[u:]. -/
theorem slice_part (R u : Nat) (hu : u < 64) (W : World) : (Instr.sliceAt 53 (.pointer (some ⟨R, 8, none⟩)) (some (.int .i64 (u : Int))) none none).run Tryd.prog W = .ok (.slice (some ⟨R, 8 + u, none⟩) (64 - u) (64 - u)) W := by
  have h1 : (Instr.sliceAt 53 (.pointer (some ⟨R, 8, none⟩)) (some (.int .i64 (u : Int))) none none).run Tryd.prog W = _ := run_sliceAt_array_l (P := Tryd.prog) W 53 ⟨R, 8, none⟩ (by kernel_rfl) .i64 (u : Int) (by omega) (by show (u : Int) ≤ ((64 : Nat) : Int); omega)
  rw [h1]
  have e : (⟨R, 8, none⟩ : Addr).add u = ⟨R, 8 + u, none⟩ := by unfold Addr.add; split <;> simp_all
  have e2 : (64 : Nat) ≠ u := by omega
  have hz : (sizeOf (Tryd.prog.elem 53)).run Tryd.prog W = .ok 1 W := by kernel_rfl
  have hz2 : Tryd.prog.arrayLen 53 = 64 := by kernel_rfl
  rw [hz, hz2]
  simp [Result.andThen, slicedAt, e, e2]
/-- b[n:]. -/
def tailS (a : Option Addr) (len cap n : Nat) : Value := .slice (if cap = n then a else a.map (·.add n)) (len - n) (cap - n)
theorem slice_from (a : Option Addr) (len cap n : Nat) (h : n ≤ len) (W : World) : (Instr.slice 22 (.slice a len cap) (some (.int .i64 (n : Int))) none none).run Tryd.prog W = .ok (tailS a len cap n) W := by
  rw [run_slice_l (P := Tryd.prog) W 22 a len cap (by kernel_rfl) .i64 (n : Int) (by omega) (by omega)]
  have hz : (sizeOf (Tryd.prog.elem 22)).run Tryd.prog W = .ok 1 W := by kernel_rfl
  rw [hz]
  simp [Result.andThen, sliced, tailS]

theorem RdX.take {R : Nat} {w : World} {a : Option Addr} {l : List UInt8} (h : RdX R w a l) (n : Nat) : RdX R w a (l.take n) := by
  refine ⟨by rw [List.length_take]; have := h.1; omega, ?_⟩
  rcases h.2 with h2 | ⟨b, o, ha, hb, hR, hc⟩
  · left; rw [h2]; simp
  · exact .inr ⟨b, o, ha, hb, hR, fun j hj => by rw [List.length_take] at hj; rw [hc j (by omega), List.getElem_take]⟩
theorem RdX.drop {R : Nat} {w : World} {a : Option Addr} {l : List UInt8} (h : RdX R w a l) {cap : Nat} (hcap : l.length ≤ cap) (n : Nat) : RdX R w (if cap = n then a else a.map (·.add n)) (l.drop n) := by
  refine ⟨by rw [List.length_drop]; have := h.1; omega, ?_⟩
  rcases h.2 with h2 | ⟨b, o, ha, hb, hR, hc⟩
  · left; rw [h2]; simp
  · by_cases e : cap = n
    · left; exact List.drop_eq_nil_of_le (by omega)
    · right
      have e1 : (⟨b, o, none⟩ : Addr).add n = ⟨b, o + n, none⟩ := by unfold Addr.add; split <;> simp_all
      refine ⟨b, o + n, by rw [if_neg e, ha]; simp [e1], hb, hR, fun j hj => ?_⟩
      rw [List.length_drop] at hj
      rw [Nat.add_assoc, hc (n + j) (by omega), List.getElem_drop]
/-- The loop's relation behind the first block. -/
theorem WRel.start {R u : Nat} {m l lt part : List UInt8} {a : Option Addr} {cap : Nat} {w w0 w1 w2 : World} {used sz : Int} (hrd : RdX R w0 a l) (hcap : l.length ≤ cap) (hc2 : cap ≤ maxLen) (hg : w.grownBy w0 (some R)) (hpl : part.length = 64)
    (hb : Below w0.heap.size w0 w1) (hg2 : w1.grownBy w2 (some R)) (hu : m.length % 64 = u) (hpt : part.take u = m.drop (64 * (m.length / 64))) (hu0 : 0 < u) (hun : u + lt.length = 64) (hnl : lt.length ≤ l.length) (hlt : l.take lt.length = lt) (hsz : sz = ((m ++ l).length : Nat))
    (hr : HR w2 R (comp (stN m (m.length / 64)) (wordsOf (splice part u lt))) ((splice part u lt).map bv ++ [.int .i64 used, .int .u64 sz])) :
    ∃ (q p : Nat) (a' : Option Addr) (cap' : Nat), 64 * q = m.length + p ∧ p ≤ l.length ∧ tailS a l.length cap lt.length = .slice a' (l.drop p).length cap' ∧ WRel R (m ++ l) q a' (l.drop p) cap' w w2 := by
  have hg3 : w0.grownBy w2 (some R) := grown_trans ⟨hb.os, hb.tape, hb.output, hb.size, fun k hk _ => hb.block k hk⟩ hg2
  have hlen : (splice part u lt).length = 64 := by simp [splice]; omega
  have e : splice part u lt = ((m ++ l).drop (64 * (m.length / 64))).take 64 := by
    rw [List.drop_append_of_le_length (by omega), ← hpt, List.take_append, List.take_of_length_le (l := List.take u part) (by rw [List.length_take]; omega)]
    have e1 : 64 - (List.take u part).length = lt.length := by rw [List.length_take]; omega
    rw [e1, hlt]
    unfold splice
    rw [List.drop_eq_nil_of_le (by omega), List.append_nil]
  refine ⟨m.length / 64 + 1, lt.length, _, _, by omega, hnl, by rw [List.length_drop]; rfl, ⟨by rw [List.length_drop]; omega, by omega, (hrd.grown hg3).drop hcap lt.length, ⟨splice part u lt, used, hlen, ?_⟩, grown_trans hg hg3⟩⟩
  subst hsz
  have e2 : stN (m ++ l) (m.length / 64 + 1) = comp (stN m (m.length / 64)) (wordsOf (splice part u lt)) := by
    rw [e]; simp only [stN]; rw [stN_app m l _ (by omega)]
  rw [e2]; exact hr

set_option maxRecDepth 100000 in
set_option maxHeartbeats 1600000 in
theorem write_some (R u : Nat) (m : List UInt8) (a : Option Addr) (cap : Nat) (l : List UInt8) (w : World) (hR : 4 ≤ R) (h : HM w R m) (hu : m.length % 64 = u) (hu0 : 0 < u) (hl : RdX R w a l) (hlu : u + l.length < 64) (hcap : l.length ≤ cap) (hc2 : cap ≤ maxLen) (hn : m.length + l.length ≤ 1152921504606846976) :
    Calls Tryd.prog 33 #[.pointer (some ⟨R, 0, none⟩), .slice a l.length cap] w fun e w' => e = .returned (.tuple #[]) ∧ HM w' R (m ++ l) ∧ w.grownBy w' (some R) := by
  have hsz1 : (Tryd.prog.info? 5).map (·.size) = some 1 := by kernel_rfl
  unfold maxLen at hc2
  obtain ⟨part, hf, hpt⟩ := h
  rw [hu] at hf hpt
  obtain ⟨sz, hsz⟩ : ∃ sz : Int, sz = ((m ++ l).length : Nat) := ⟨_, rfl⟩
  have HSZ := Lib.hid hsz
  have h72 := hf.used
  have h73 := hf.size
  have f72 := hf.frozen 72
  have f73 := hf.frozen 73
  have HU := Lib.hid hu
  have HPT := Lib.hid hpt
  have HG1 : Hid (w.grownBy (w.setCell ⟨R, 73, none⟩ (.int .u64 ((m.length : Int) + (l.length : Int)))) (some R)) := grown_set ⟨rfl, rfl, rfl, Nat.le_refl _, fun _ _ _ => rfl⟩ 73 _
  have HF1 : Hid (HF (w.setCell ⟨R, 73, none⟩ (.int .u64 ((m.length : Int) + (l.length : Int)))) R (stN m (m.length / 64)) part (u : Nat) sz) := by rw [hsz, List.length_append, Int.natCast_add]; exact hf.setSize _
  have HRD : Hid (RdX R (w.setCell ⟨R, 73, none⟩ (.int .u64 ((m.length : Int) + (l.length : Int)))) a l) := hl.grown HG1.out
  clear hf hl hu hpt hsz
  go_enter Tryd.func33, Tryd.ntmps33
  go_wp2_with fail
  obtain ⟨w1, hw1⟩ : ∃ w1, w1 = w.setCell ⟨R, 73, none⟩ (.int .u64 ((m.length : Int) + (l.length : Int))) := ⟨_, rfl⟩
  rw [← hw1] at HG1 HF1 HRD
  rw [← hw1]
  clear hw1 h72 h73 f72 f73
  have h72 := HF1.out.used
  have f72 := HF1.out.frozen 72
  have hsl := slice_part R u (by omega)
  go_still_tail 9, (by kernel_rfl)
  change wpList _ _ _ _ _ w1.drew
  go_wp2_with (refine wpList_copyRow rfl (.tmp 30) (.tmp 31) 22 22 rfl 5 Tryd.underlying22 hsz1 (some ⟨R, 8 + u, none⟩) a (64 - u) (64 - u) l.length cap rfl rfl R (8 + u) _ 55 HF1.out.2.2 (l.map bv) ?c1 ?c2 ?c3 ?c4 ?c5)
  case c1 => rw [List.length_map]; exact (Nat.min_eq_left (by omega)).symm
  case c2 => intro h0; exact HRD.out.at_ (by simpa using h0)
  case c3 => have h1 := HF1.out.1; have h2 := HF1.out.2.1; simp [wv_size, h1, h2]; omega
  case c4 => intro v hv; obtain ⟨x, _, rfl⟩ := List.mem_map.1 hv; rfl
  intro w3 h3 hg3
  have HF3 := Lib.hid (HF1.out.copy (r := l) u (by omega) h3)
  have HG3 := Lib.hid (grown_trans (grown_drew HG1.out) hg3)
  clear h3 hg3 h72 f72 HF1 HRD HG1 hsl
  have h72 := HF3.out.used
  have f72 := HF3.out.frozen 72
  have hsl := slice_from a l.length cap l.length (Nat.le_refl _)
  go_wp2_with fail
  have hs2 : IntKind.i64.wrap ((u : Int) + (l.length : Int)) = (u : Int) + (l.length : Int) := IntWalk.i64_in _ (by omega)
  go_region
  go_wp2_with fail
  refine bodyPost_ret (v := .tuple #[]) (results_none rfl _ _ _) rfl ⟨rfl, HM.drew (HM.more HF3.out HU.out HPT.out hu0 hlu HSZ.out rfl), grown_drew (grown_set HG3.out 72 _)⟩
set_option maxRecDepth 100000 in
set_option maxHeartbeats 3200000 in
theorem write_fill (R u : Nat) (m lt : List UInt8) (a : Option Addr) (cap : Nat) (l : List UInt8) (w : World) (hT : Tab w) (hR : 4 ≤ R) (h : HM w R m) (hu : m.length % 64 = u) (hu0 : 0 < u) (hl : RdX R w a l) (hun : u + lt.length = 64) (hnl : lt.length ≤ l.length) (hlt : l.take lt.length = lt) (hcap : l.length ≤ cap) (hc2 : cap ≤ maxLen) (hn : m.length + l.length ≤ 1152921504606846976) :
    Calls Tryd.prog 33 #[.pointer (some ⟨R, 0, none⟩), .slice a l.length cap] w fun e w' => e = .returned (.tuple #[]) ∧ HM w' R (m ++ l) ∧ w.grownBy w' (some R) := by
  have hsz1 : (Tryd.prog.info? 5).map (·.size) = some 1 := by kernel_rfl
  have hc2' := hc2
  unfold maxLen at hc2
  have HT := Lib.hid hT
  obtain ⟨part, hf, hpt⟩ := h
  rw [hu] at hf hpt
  have HPL := Lib.hid hf.1
  obtain ⟨sz, hsz⟩ : ∃ sz : Int, sz = ((m ++ l).length : Nat) := ⟨_, rfl⟩
  have HSZ := Lib.hid hsz
  have h72 := hf.used
  have h73 := hf.size
  have f72 := hf.frozen 72
  have f73 := hf.frozen 73
  have HU := Lib.hid hu
  have HPT := Lib.hid hpt
  have HG1 : Hid (w.grownBy (w.setCell ⟨R, 73, none⟩ (.int .u64 ((m.length : Int) + (l.length : Int)))) (some R)) := grown_set ⟨rfl, rfl, rfl, Nat.le_refl _, fun _ _ _ => rfl⟩ 73 _
  have HF1 : Hid (HF (w.setCell ⟨R, 73, none⟩ (.int .u64 ((m.length : Int) + (l.length : Int)))) R (stN m (m.length / 64)) part (u : Nat) sz) := by rw [hsz, List.length_append, Int.natCast_add]; exact hf.setSize _
  have HRD : Hid (RdX R (w.setCell ⟨R, 73, none⟩ (.int .u64 ((m.length : Int) + (l.length : Int)))) a l) := hl.grown HG1.out
  have HUN := Lib.hid hun
  have HLT := Lib.hid hlt
  have HL0 := Lib.hid hl
  have HRT : Hid (RdX R (w.setCell ⟨R, 73, none⟩ (.int .u64 ((m.length : Int) + (l.length : Int)))) a lt) := by have h := HRD.out.take lt.length; rw [hlt] at h; exact h
  have HL2 := Lib.hid hc2'
  have hu64 : u < 64 := by omega
  clear hun hlt hf hl hu hpt hsz hT hc2'
  go_enter Tryd.func33, Tryd.ntmps33
  go_wp2_with fail
  obtain ⟨w1, hw1⟩ : ∃ w1, w1 = w.setCell ⟨R, 73, none⟩ (.int .u64 ((m.length : Int) + (l.length : Int))) := ⟨_, rfl⟩
  rw [← hw1] at HG1 HF1 HRD HRT
  rw [← hw1]
  clear hw1 h72 h73 f72 f73
  have h72 := HF1.out.used
  have f72 := HF1.out.frozen 72
  have hsl := slice_part R u (by omega)
  go_still_tail 9, (by kernel_rfl)
  change wpList _ _ _ _ _ w1.drew
  go_wp2_with (refine wpList_copyRow rfl (.tmp 30) (.tmp 31) 22 22 rfl 5 Tryd.underlying22 hsz1 (some ⟨R, 8 + u, none⟩) a (64 - u) (64 - u) l.length cap rfl rfl R (8 + u) _ 55 HF1.out.2.2 (lt.map bv) ?c1 ?c2 ?c3 ?c4 ?c5)
  case c1 => rw [List.length_map]; have h1 : 64 - u = lt.length := by have := HUN.out; omega
             rw [h1]; exact (Nat.min_eq_right hnl).symm
  case c2 => intro h0; exact HRT.out.at_ (by have := HUN.out; omega)
  case c3 => have h1 := HF1.out.1; have h2 := HF1.out.2.1; have := HUN.out; simp [wv_size, h1, h2]; omega
  case c4 => intro v hv; obtain ⟨x, _, rfl⟩ := List.mem_map.1 hv; rfl
  intro w3 h3 hg3
  have HF3 := Lib.hid (HF1.out.copy (r := lt) u (by have := HUN.out; omega) h3)
  have HG3 := Lib.hid (grown_trans (grown_drew HG1.out) hg3)
  clear h3 hg3 h72 f72 HF1 hsl
  have h72 := HF3.out.used
  have f72 := HF3.out.frozen 72
  have hsl := slice_from a l.length cap lt.length hnl
  go_wp2_with fail
  have hs2 : IntKind.i64.wrap ((u : Int) + (lt.length : Int)) = (u : Int) + (lt.length : Int) := IntWalk.i64_in _ (by have := HUN.out; omega)
  have hge : 64 ≤ (u : Int) + (lt.length : Int) := by have := HUN.out; omega
  go_region
  have HF4 : Hid (HF (w3.setCell ⟨R, 72, none⟩ (.int .i64 ((u : Int) + (lt.length : Int)))).drew R (stN m (m.length / 64)) (splice part u lt) ((u : Int) + (lt.length : Int)) sz) := (HF3.out.setUsed _).drewN 1
  have HG4 : Hid (w.grownBy (w3.setCell ⟨R, 72, none⟩ (.int .i64 ((u : Int) + (lt.length : Int)))).drew (some R)) := grown_drew (grown_set HG3.out 72 _)
  clear hs2 hsl h72 f72
  obtain ⟨w4, hw4⟩ : ∃ w4, w4 = (w3.setCell ⟨R, 72, none⟩ (.int .i64 ((u : Int) + (lt.length : Int)))).drew := ⟨_, rfl⟩
  rw [← hw4] at HF4 HG4
  rw [← hw4]
  clear hw4
  have h72 := HF4.out.used
  have hR4 : R < w4.heap.size := HF4.out.lt
  go_wp2_with fail
  refine (words_any R 8 64 64 (splice part u lt) _ (by omega) (by unfold maxLen; omega) (by omega) hR4 HF4.out.1 HF4.out.part).mono ?_
  rintro e w5 ⟨rfl, hb5⟩
  have HB5 := Lib.hid hb5
  clear hb5
  go_wp2_with fail
  refine (absorb_any R _ _ _ _ ((HT.out.grown HG4.out hR).below HB5.out (HT.out.grown HG4.out hR).lt) hR (HF4.out.2.below HB5.out hR4) (wordsOf_len _)).mono ?_
  rintro e w6 ⟨rfl, hr6, hg6⟩
  have HR6 := Lib.hid hr6
  have HG6 := Lib.hid hg6
  clear hr6 hg6
  have HST := Lib.hid (WRel.start (w := w) (HL0.out.grown HG4.out) hcap HL2.out HG4.out HPL.out HB5.out HG6.out HU.out HPT.out hu0 HUN.out hnl HLT.out HSZ.out HR6.out)
  clear HR6 HG6 HB5 HF4 HF3 HG3 HG1 HRD HRT h72 hge
  go_wp2_with fail
  go_loopw [1] (fun s wr => ∃ (q p : Nat) (a' : Option Addr) (cap' : Nat), 64 * q = m.length + p ∧ p ≤ l.length ∧ s = .slice a' (l.drop p).length cap' ∧ WRel R (m ++ l) q a' (l.drop p) cap' w wr) (fun s _ => sliceLen s)
  case atStart => exact HST.out
  case round =>
    clear HST
    obtain ⟨q, p, a', cap', hq, hp, rfl, hrel⟩ := hrel
    have HQ := Lib.hid hq
    have HPL := Lib.hid hp
    have HD : Hid ((m ++ l).drop (64 * q) = l.drop p) := by show _ = _; rw [hq]; simp
    clear hq hp
    obtain ⟨r, hr⟩ : ∃ r, r = l.drop p := ⟨_, rfl⟩
    rw [← hr] at hrel HD ⊢
    have HRR := Lib.hid hr
    clear hr
    have hca := hrel.cap
    have hcb := hrel.capMax
    unfold maxLen at hcb
    have HREL := Lib.hid hrel
    have hT1 := HT.out.grown hrel.grown hR
    have HT1 := Lib.hid hT1
    clear hrel hT1
    by_cases h64 : 64 ≤ r.length
    · obtain ⟨b, o, rfl, hb, hbR, hcell⟩ := HREL.out.at_ (by omega)
      have HCELL := Lib.hid hcell
      clear hcell
      obtain ⟨part, used, hf⟩ := HREL.out.row
      have HF1 := Lib.hid hf
      clear hf
      go_wp2_with fail
      refine (words_any b o r.length cap' (r.take 64) _ h64 (by unfold maxLen; omega) hca hb (by rw [List.length_take]; omega) (fun j hj => by rw [HCELL.out j (by rw [List.length_take] at hj; omega), List.getElem_take])).mono ?_
      rintro e w1 ⟨rfl, hb1⟩
      have HB1 := Lib.hid hb1
      clear hb1
      go_wp2_with fail
      refine (absorb_any R _ _ _ _ (HT1.out.below HB1.out HT1.out.lt) hR (HF1.out.2.below HB1.out HF1.out.lt) (wordsOf_len _)).mono ?_
      rintro e w2 ⟨rfl, hr2, hg2⟩
      have HN : Hid (WRel R (m ++ l) (q + 1) (if cap' = 64 then some ⟨b, o, none⟩ else some ⟨b, o + 64, none⟩) (r.drop 64) (cap' - 64) w w2) := by
        have hU := grown_trans (grown_call HREL.out.grown HB1.out) hg2
        refine WRel.next HREL.out HB1.out hg2 HF1.out HD.out h64 ?_ rfl
        rw [← HRR.out] at *
        exact hr2
      have HD2 : Hid (r.drop 64 = l.drop (p + 64)) := by show _ = _; rw [HRR.out, List.drop_drop]
      have HLN : Hid ((l.drop (p + 64)).length = r.length - 64) := by show _ = _; rw [← HD2.out, List.length_drop]
      clear hr2 hg2
      go_wp2_with fail
      all_goals
        go_roundw
        case rel => exact ⟨q + 1, p + 64, _, _, by have := HQ.out; omega, by have := HPL.out; have h := HRR.out; rw [h, List.length_drop] at h64; omega, by rw [HLN.out], by rw [← HD2.out]; exact HN.out⟩
        case measure => simp [sliceLen]; omega
    · obtain ⟨part, used, hf⟩ := HREL.out.row
      obtain ⟨sz, hsz⟩ : ∃ sz : Int, sz = ((m ++ l).length : Nat) := ⟨_, rfl⟩
      rw [← hsz] at hf
      have HSZ := Lib.hid hsz
      clear hsz
      have HF1 := Lib.hid hf
      have HRD := Lib.hid HREL.out.read
      have HGR := Lib.hid HREL.out.grown
      clear hf
      go_wp2_with (refine wpList_copyRow rfl (.tmp 70) (.tmp 71) 22 22 rfl 5 Tryd.underlying22 hsz1 (some ⟨R, 8, none⟩) a' 64 64 r.length cap' rfl rfl R 8 _ 55 HF1.out.2.2 (r.map bv) ?d1 ?d2 ?d3 ?d4 ?d5)
      case d1 => rw [List.length_map]; exact (Nat.min_eq_left (by omega)).symm
      case d2 => intro h0; exact HRD.out.at_ (by simpa using h0)
      case d3 => have h1 := HF1.out.1; have h2 := HF1.out.2.1; simp [wv_size, h1, h2]; omega
      case d4 => intro v hv; obtain ⟨x, _, rfl⟩ := List.mem_map.1 hv; rfl
      intro w3 h3 hg3
      have HF3 := Lib.hid (HF1.out.copy0 (r := r) (by omega) h3)
      have HG3 := Lib.hid (grown_trans HGR.out hg3)
      clear h3 hg3
      have h72 := HF3.out.used
      have f72 := HF3.out.frozen 72
      go_wp2_with fail
      go_end0
      exact ⟨rfl, HM.fill (HF3.out.setUsed _) rfl HSZ.out (by have := HQ.out; have := HPL.out; have h := HRR.out; rw [h, List.length_drop]; simp; omega) (by omega) HD.out (splice0_take _ _), grown_set HG3.out 72 _⟩
theorem write_any (R : Nat) (m : List UInt8) (a : Option Addr) (cap : Nat) (l : List UInt8) (w : World) (hT : Tab w) (hR : 4 ≤ R) (h : HM w R m) (hl : RdX R w a l) (hcap : l.length ≤ cap) (hc2 : cap ≤ maxLen) (hn : m.length + l.length ≤ 1152921504606846976) :
    Calls Tryd.prog 33 #[.pointer (some ⟨R, 0, none⟩), .slice a l.length cap] w fun e w' => e = .returned (.tuple #[]) ∧ HM w' R (m ++ l) ∧ w.grownBy w' (some R) := by
  rcases Nat.eq_zero_or_pos (m.length % 64) with hu | hu
  · exact write_zero R m a cap l w hT hR h hu hl hcap hc2 hn
  · by_cases h64 : m.length % 64 + l.length < 64
    · exact write_some R _ m a cap l w hR h rfl hu hl h64 hcap hc2 hn
    · have e : (l.take (64 - m.length % 64)).length = 64 - m.length % 64 := by rw [List.length_take]; omega
      exact write_fill R _ m (l.take (64 - m.length % 64)) a cap l w hT hR h rfl hu hl (by omega) (by omega) (by rw [e]) hcap hc2 hn
end Go.Proofs.YtmeoicfeiamkmaaDoor
