/-
  Contracts of Same (both).
  Contract of (*reader).take.
  Reading numerals: the plain function; the contract of (*reader).numeral.
  Contract of (*reader).numeral.
  Values in memory that a call has made: which blocks they lie in; a list of values that the call owns. The plain decoder.
  Contracts of (*reader).value and (*reader).list.
  Contracts of (*reader).list and of (*reader).value at a list.
  Contract of Decode (codec).
-/
import Derived.Test.YthcbnanohjkllaaDoorPkA
import Derived.BigQuiet
import Derived.Deep.QuietTactic
import Derived.Deep.RegionHeld3
import Derived.StillTailTactics
import Derived.Test.YthcbnanohjkllaaDoorPkK
import Derived.Defers
import Derived.Recover
import Derived.Laws.Pointers
set_option linter.unusedVariables false
set_option linter.unusedSimpArgs false
namespace Go.Proofs.YthcbnanohjkllaaDoor
open Go.RowKit

def VL.same : VL → VL → Bool
  | .nil, .nil => true
  | .cons k n s kids r, .cons k' n' s' kids' r' => (decide (k = k') && (decide (n = n') && (decide (s = s') && kids.same kids'))) && r.same r'
  | _, _ => false
def vsame (k n : Int) (s : ByteArray) (kids : VL) (k' n' : Int) (s' : ByteArray) (kids' : VL) : Bool := decide (k = k') && (decide (n = n') && (decide (s = s') && kids.same kids'))
theorem VL.same_cons (k n : Int) (s : ByteArray) (kids r : VL) (k' n' : Int) (s' : ByteArray) (kids' r' : VL) : (VL.cons k n s kids r).same (.cons k' n' s' kids' r') = (vsame k n s kids k' n' s' kids' && r.same r') := rfl
theorem VL.same_len : ∀ (f g : VL), f.len ≠ g.len → f.same g = false
  | .nil, .nil, h => absurd rfl h
  | .nil, .cons .., _ => rfl
  | .cons .., .nil, _ => rfl
  | .cons k n s kids r, .cons k' n' s' kids' r', h => by
    rw [VL.same_cons, VL.same_len r r' (by simp only [VL.len] at h; omega), Bool.and_false]
theorem VL.same_iff : ∀ (f g : VL), f.same g = true ↔ f = g
  | .nil, .nil => by simp [VL.same]
  | .nil, .cons .. => by simp [VL.same]
  | .cons .., .nil => by simp [VL.same]
  | .cons k n s kids r, .cons k' n' s' kids' r' => by
    simp only [VL.same, Bool.and_eq_true, decide_eq_true_eq, VL.same_iff kids kids', VL.same_iff r r', VL.cons.injEq]
    constructor
    · rintro ⟨⟨a, b, c, d⟩, e⟩; exact ⟨a, b, c, d, e⟩
    · rintro ⟨a, b, c, d, e⟩; exact ⟨⟨a, b, c, d⟩, e⟩
theorem vsame_iff (k n : Int) (s : ByteArray) (kids : VL) (k' n' : Int) (s' : ByteArray) (kids' : VL) : vsame k n s kids k' n' s' kids' = true ↔ k = k' ∧ n = n' ∧ s = s' ∧ kids = kids' := by
  simp only [vsame, Bool.and_eq_true, decide_eq_true_eq, VL.same_iff]

theorem ba_inj {a b : ByteArray} (h : a.toList = b.toList) : a = b := by
  rw [ByteArray.toList_eq, ByteArray.toList_eq] at h
  cases a; cases b
  simp only [ByteArray.mk.injEq]
  exact Array.ext' h

/-- What codec.Same does, on values up to a size. -/
def SameSaid (m : Nat) : Prop := ∀ (B : Nat) (k n : Int) (s : ByteArray) (a : Option Addr) (cap : Nat) (kids : VL) (k' n' : Int) (s' : ByteArray) (a' : Option Addr) (cap' : Nat) (kids' : VL) (w : World), kids.sz ≤ m → RepS B w a cap kids → RepS B w a' cap' kids' → B ≤ w.heap.size →
    Calls Tryd.prog 24 #[.agg #[.int .i64 k, .int .i64 n, .string s, .slice a kids.len cap], .agg #[.int .i64 k', .int .i64 n', .string s', .slice a' kids'.len cap']] w fun e w' => e = .returned (.bool (vsame k n s kids k' n' s' kids')) ∧ Below w.heap.size w w'

set_option maxRecDepth 100000 in
set_option maxHeartbeats 800000 in
theorem equalFunc_any (m : Nat) (ih : SameSaid m) (B : Nat) (a : Option Addr) (cap : Nat) (kids : VL) (a' : Option Addr) (cap' : Nat) (kids' : VL) (w : World) (hm : kids.sz ≤ m + 1) (hr : RepS B w a cap kids) (hr' : RepS B w a' cap' kids') (hB : B ≤ w.heap.size) :
    Calls Tryd.prog 42 #[.slice a kids.len cap, .slice a' kids'.len cap', .func (.func 24) #[] #[]] w fun e w' => e = .returned (.bool (kids.same kids')) ∧ Below w.heap.size w w' := by
  by_cases h4 : ¬ kids.len = kids'.len
  · have HV : Hid (kids.same kids' = false) := VL.same_len _ _ h4
    go_enter Tryd.func42, Tryd.ntmps42
    go_wp2
    all_goals
      go_ret
      exact ⟨by rw [HV.out]; rfl, Below.refl _ _⟩
  have h4 : kids.len = kids'.len := by omega
  have H4 := Lib.hid h4
  have g4 : ((kids.len : Int) != (kids'.len : Int)) = false := by rw [h4]; simp
  clear h4
  have hl := hr.1
  obtain ⟨b, o, hf, HA⟩ := hr.at
  obtain ⟨b', o', hf', HA'⟩ := hr'.at
  clear hr hr'
  unfold maxLen at hl
  go_enter Tryd.func42, Tryd.ntmps42
  go_wp2
  go_loopw [17] (fun i wr => ∃ (j : Nat) (r r' : VL), i = .int .i64 j ∧ j + r.len = kids.len ∧ r.len = r'.len ∧ r.sz ≤ m + 1 ∧ RepL B wr b (o + j * 4) r ∧ RepL B wr b' (o' + j * 4) r' ∧ Hid (kids.same kids' = r.same r') ∧ Below w.heap.size w wr) (fun i _ => kids.len - (intOf i).toNat)
  case atStart => exact ⟨0, kids, kids', rfl, by omega, H4.out, hm, by simpa using hf, by simpa using hf', Lib.hid rfl, Below.refl _ _⟩
  case round =>
    obtain ⟨j, r, r', rfl, hj, hrr, hm', hr, hr', HW, hb⟩ := hrel
    cases r with
    | nil =>
      have hje : j = kids.len := by simpa [VL.len] using hj
      have hn : r' = .nil := VL.nil_of_len (by simpa [VL.len] using hrr.symm)
      subst hn
      clear hrr
      go_wp2
      go_ret
      exact ⟨by rw [HW.out]; rfl, hb⟩
    | cons k1 n1 s1 kids1 r1 =>
      cases r' with
      | nil => simp [VL.len] at hrr
      | cons k2 n2 s2 kids2 r2 =>
      simp only [VL.len] at hj hrr
      have hlt : j < kids.len := by omega
      have hlt' : j < kids'.len := by have := H4.out; omega
      have ha : a = some ⟨b, o, none⟩ := by
        rcases HA.out with h | h
        · rw [h] at hlt; simp [VL.len] at hlt
        · exact h
      have ha' : a' = some ⟨b', o', none⟩ := by
        rcases HA'.out with h | h
        · rw [h] at hlt'; simp [VL.len] at hlt'
        · exact h
      subst ha ha'
      obtain ⟨q0, q1, q2, q3, q4, q5, q6, ⟨a1, cap1, q7, q8⟩, q9⟩ := hr
      obtain ⟨p0, p1, p2, p3, p4, p5, p6, ⟨a2, cap2, p7, p8⟩, p9⟩ := hr'
      simp only [VL.sz] at hm'
      have := kids1.sz_pos
      have := r1.sz_pos
      have hBw : w.heap.size ≤ wr.heap.size := hb.size
      have hBr : B ≤ wr.heap.size := by omega
      have HS1 := Lib.hid (show RepS B wr a1 cap1 kids1 from q8)
      have HS2 := Lib.hid (show RepS B wr a2 cap2 kids2 from p8)
      have HM := Lib.hid q9
      have HM' := Lib.hid p9
      clear q8 q9 p8 p9
      have hR := Lib.hid (show r1.len = r2.len by omega)
      clear hrr
      have hbl : b < wr.heap.size := by omega
      have hbl' : b' < wr.heap.size := by omega
      go_wp2_with fail
      have hbb : ∀ o1 o2, Below B wr ((wr.alloc o1).alloc o2) := fun o1 o2 => ((Below.refl _ _).alloc hBr _).alloc (le_alloc hBr _) _
      refine (ih B k1 n1 s1 a1 cap1 kids1 k2 n2 s2 a2 cap2 kids2 _ (by omega) (HS1.out.below (hbb _ _)) (HS2.out.below (hbb _ _)) (le_alloc (le_alloc hBr _) _)).mono ?_
      rintro e w1 ⟨rfl, hb1⟩
      have hb2 : Below w.heap.size w w1 := ((hb.alloc hBw _).alloc (le_alloc hBw _) _).trans (hb1.mono (le_alloc (le_alloc hBw _) _))
      have hb3 : Below B wr w1 := (hbb _ _).trans (hb1.mono (le_alloc (le_alloc hBr _) _))
      have hM1 := Lib.hid (HM.out.below hb3)
      have hM2 := Lib.hid (HM'.out.below hb3)
      clear hb1 hbb
      cases hv : vsame k1 n1 s1 kids1 k2 n2 s2 kids2 with
      | false =>
        have HVV := Lib.hid hv
        clear hv
        go_wp2_with fail
        go_ret
        exact ⟨by rw [HW.out, VL.same_cons, HVV.out]; rfl, hb2⟩
      | true =>
        have HVV := Lib.hid hv
        clear hv
        go_wp2_with fail
        go_roundw
        case rel =>
          refine ⟨j + 1, r1, r2, by go_num, by omega, hR.out, by omega, ?_, ?_, ?_, hb2⟩
          · rw [show o + (j + 1) * 4 = o + j * 4 + 4 from by omega]; exact hM1.out
          · rw [show o' + (j + 1) * 4 = o' + j * 4 + 4 from by omega]; exact hM2.out
          · show _ = _
            rw [HW.out, VL.same_cons, HVV.out, Bool.true_and]
        case measure => simp [intOf]; omega

set_option maxRecDepth 100000 in
set_option maxHeartbeats 800000 in
theorem same_any (m : Nat) : SameSaid m := by
  induction m with
  | zero => intro B k n s a cap kids k' n' s' a' cap' kids' w hm; have := kids.sz_pos; omega
  | succ m ih =>
  intro B k n s a cap kids k' n' s' a' cap' kids' w hm hr hr' hB
  by_cases h1 : ¬ k = k'
  · have HV : Hid (vsame k n s kids k' n' s' kids' = false) := by show _ = _; simp [vsame, h1]
    go_enter Tryd.func24, Tryd.ntmps24
    go_wp2
    all_goals
      go_ret
      exact ⟨by rw [HV.out]; rfl, ((Below.refl _ _).alloc (Nat.le_refl _) _).alloc (by simp) _⟩
  have h1 : k = k' := by omega
  subst h1
  by_cases h2 : ¬ n = n'
  · have HV : Hid (vsame k n s kids k n' s' kids' = false) := by show _ = _; simp [vsame, h2]
    go_enter Tryd.func24, Tryd.ntmps24
    go_wp2
    all_goals
      go_ret
      exact ⟨by rw [HV.out]; rfl, ((Below.refl _ _).alloc (Nat.le_refl _) _).alloc (by simp) _⟩
  have h2 : n = n' := by omega
  subst h2
  by_cases h3 : ¬ s = s'
  · have h3' : ¬ s.toList = s'.toList := fun h => h3 (ba_inj h)
    have HV : Hid (vsame k n s kids k n s' kids' = false) := by show _ = _; simp [vsame, h3]
    go_enter Tryd.func24, Tryd.ntmps24
    go_wp2
    all_goals
      go_ret
      exact ⟨by rw [HV.out]; rfl, ((Below.refl _ _).alloc (Nat.le_refl _) _).alloc (by simp) _⟩
  have h3 : s = s' := Classical.byContradiction h3
  subst h3
  have HV : Hid (vsame k n s kids k n s kids' = kids.same kids') := by show _ = _; simp [vsame]
  go_enter Tryd.func24, Tryd.ntmps24
  go_wp2_with fail
  refine (equalFunc_any m ih B a cap kids a' cap' kids' _ hm (hr.below (((Below.refl _ _).alloc hB _).alloc (le_alloc hB _) _)) (hr'.below (((Below.refl _ _).alloc hB _).alloc (le_alloc hB _) _)) (le_alloc (le_alloc hB _) _)).mono ?_
  rintro e w1 ⟨rfl, hb1⟩
  go_wp2_with fail
  go_ret
  exact ⟨by rw [HV.out]; rfl, (((Below.refl _ _).alloc (Nat.le_refl _) _).alloc (by simp) _).trans (hb1.mono (by simp; omega))⟩
end Go.Proofs.YthcbnanohjkllaaDoor

namespace Go.Proofs.YthcbnanohjkllaaDoor
open Go.RowKit

/-- The panic of package codec's reader. -/
def errCode : List PanicEntry := [{ v := .iface 31 (.int .i64 10), recovered := false }]

/-- The reader at block R: what is left to be read. -/
def Rdr (Bd R : Nat) (w : World) (l : List UInt8) : Prop :=
  Bd ≤ R ∧ w.frozen? ⟨R, 0, none⟩ = false ∧ ∃ a cap, w.cell? ⟨R, 0, none⟩ = some (.slice a l.length cap) ∧ l.length ≤ cap ∧ cap ≤ maxLen ∧ RdB Bd w a l

theorem upd_drew (R : Nat) (w : World) : w.grownBy w.drew (some R) := ⟨rfl, rfl, rfl, Nat.le_refl _, fun _ _ _ => rfl⟩
theorem upd_set {R : Nat} {w w2 : World} (h : w.grownBy w2 (some R)) (v : Value) : w.grownBy (w2.setCell ⟨R, 0, none⟩ v) (some R) :=
  ⟨h.os, h.tape, h.output, by simpa using h.size, fun k hk hn => by rw [Below.heap_setCell _ _ _ _ (by intro e; subst e; exact hn rfl)]; exact h.block k hk hn⟩
theorem upd_trans {R : Nat} {w w1 w2 : World} (h : w.grownBy w1 (some R)) (k : w1.grownBy w2 (some R)) : w.grownBy w2 (some R) :=
  ⟨k.os.trans h.os, k.tape.trans h.tape, k.output.trans h.output, Nat.le_trans h.size k.size, fun i hi hn => (k.block i (Nat.lt_of_lt_of_le hi h.size) hn).trans (h.block i hi hn)⟩
theorem upd_below {R B : Nat} {w w1 : World} (h : w.grownBy w1 (some R)) (hB : B ≤ R) (hs : B ≤ w.heap.size) : Below B w w1 := (Below.refl _ _).grown h hs fun k hk => by injection hk with hk; omega

/-- Behind the store into the reader's cell. -/
theorem rdr_set {Bd R : Nat} {w w2 : World} {x : Value} {a : Option Addr} {l : List UInt8} {cap : Nat} (hU : w.grownBy w2 (some R)) (hbR : Bd ≤ R) (hR : w2.cell? ⟨R, 0, none⟩ = some x) (hfz : w2.frozen? ⟨R, 0, none⟩ = false) (hl : l.length ≤ cap) (hc : cap ≤ maxLen) (hr : RdB Bd w2 a l) :
    Rdr Bd R (w2.setCell ⟨R, 0, none⟩ (.slice a l.length cap)) l ∧ w.grownBy (w2.setCell ⟨R, 0, none⟩ (.slice a l.length cap)) (some R) := by
  have hlt := World.block_lt_of_cell? w2 _ hR
  refine ⟨⟨hbR, ?_, a, cap, ?_, hl, hc, ?_⟩, upd_set hU _⟩
  · simpa using hfz
  · exact World.cell?_setCell_same _ _ _ hR
  · exact hr.below ((Below.refl _ _).setCell (by simpa using hbR) _)

set_option maxRecDepth 100000 in
set_option maxHeartbeats 400000 in
theorem take_some (Bd b o cap R n : Nat) (l : List UInt8) (w : World) (hbR : Bd ≤ R) (hbd : b < Bd) (hR : w.cell? ⟨R, 0, none⟩ = some (.slice (some ⟨b, o, none⟩) l.length cap)) (hfz : w.frozen? ⟨R, 0, none⟩ = false) (hcap : l.length ≤ cap) (hc2 : cap ≤ maxLen) (hn : n ≤ l.length)
    (hc : ∀ j (h : j < l.length), w.cell? ⟨b, o + j, none⟩ = some (bv l[j])) :
    Calls Tryd.prog 60 #[.pointer (some ⟨R, 0, none⟩), .int .u64 n] w fun e w' => e = .returned (.slice (some ⟨b, o, none⟩) n n) ∧ Rdr Bd R w' (l.drop n) ∧ w.grownBy w' (some R) := by
  have hc2' := hc2
  unfold maxLen at hc2
  have hwr : IntKind.u64.wrap (l.length : Int) = (l.length : Int) := by rw [IntKind.wrap_u64]; omega
  have HC := Lib.hid hc
  clear hc
  go_enter Tryd.func60, Tryd.ntmps60
  go_wp2_with fail
  go_still_tail 19, (by kernel_rfl)
  change wpList _ _ _ _ _ w.drew
  have hR2 : w.drew.cell? ⟨R, 0, none⟩ = some (.slice (some ⟨b, o, none⟩) l.length cap) := by simpa using hR
  have hfz2 : w.drew.frozen? ⟨R, 0, none⟩ = false := by simpa using hfz
  have HU := Lib.hid (upd_drew R w)
  generalize w.drew = w2 at *
  have HU2 := HU
  have hU := HU.out
  clear hR hfz HU
  have HB := Lib.hid (show RdB Bd w2 (some ⟨b, o + n, none⟩) (l.drop n) from ⟨by rw [List.length_drop]; unfold maxLen; omega, .inr ⟨b, o + n, rfl, hbd, fun j hj => by
    have h1 := HC.out (n + j) (by rw [List.length_drop] at hj; omega)
    have h2 : w2.cell? ⟨b, o + n + j, none⟩ = w.cell? ⟨b, o + (n + j), none⟩ := by
      rw [Nat.add_assoc]
      have h3 := World.block_lt_of_cell? w _ h1
      exact World.cell?_of_block (w := w) (hU.block b h3 (by intro e; injection e with e; omega))
    rw [h2, h1, List.getElem_drop]⟩⟩)
  have hld : (l.drop n).length = l.length - n := List.length_drop
  have HD := Lib.hid hld
  clear hld
  go_wp2
  · rename_i he
    go_ret
    have h0 : l.drop n = [] := List.drop_eq_nil_of_le (by omega)
    refine ⟨rfl, ?_⟩
    rw [h0]
    exact rdr_set (l := []) (a := some ⟨b, o, none⟩) (cap := 0) HU2.out hbR hR2 hfz2 (Nat.zero_le _) (by unfold maxLen; omega) ⟨by unfold maxLen; simp, .inl rfl⟩
  · go_ret
    refine ⟨rfl, ?_⟩
    have := rdr_set (l := l.drop n) (a := some ⟨b, o + n, none⟩) (cap := l.length - n) HU2.out hbR hR2 hfz2 (by rw [HD.out]; omega) (by unfold maxLen; omega) HB.out
    rw [HD.out] at this
    exact this

set_option maxRecDepth 100000 in
set_option maxHeartbeats 400000 in
theorem take_empty (Bd cap R : Nat) (a : Option Addr) (w : World) (hbR : Bd ≤ R) (hR : w.cell? ⟨R, 0, none⟩ = some (.slice a 0 cap)) (hfz : w.frozen? ⟨R, 0, none⟩ = false) (hc2 : cap ≤ maxLen) :
    Calls Tryd.prog 60 #[.pointer (some ⟨R, 0, none⟩), .int .u64 ((0 : Nat) : Int)] w fun e w' => ∃ a', e = .returned (.slice a' 0 0) ∧ Rdr Bd R w' [] ∧ w.grownBy w' (some R) := by
  have hc2' := hc2
  unfold maxLen at hc2
  cases a with
  | none =>
    go_enter Tryd.func60, Tryd.ntmps60
    go_wp2_with fail
    go_still_tail 19, (by kernel_rfl)
    change wpList _ _ _ _ _ w.drew
    have hR2 : w.drew.cell? ⟨R, 0, none⟩ = some (.slice none 0 cap) := by simpa using hR
    have hfz2 : w.drew.frozen? ⟨R, 0, none⟩ = false := by simpa using hfz
    have HU := Lib.hid (upd_drew R w)
    generalize w.drew = w2 at *
    clear hR hfz
    go_wp2
    all_goals
      go_ret
      exact ⟨_, rfl, rdr_set (l := []) (a := none) HU.out hbR hR2 hfz2 (Nat.zero_le _) (by unfold maxLen; omega) ⟨by unfold maxLen; simp, .inl rfl⟩⟩
  | some ad =>
    go_enter Tryd.func60, Tryd.ntmps60
    go_wp2_with fail
    go_still_tail 19, (by kernel_rfl)
    change wpList _ _ _ _ _ w.drew
    have hR2 : w.drew.cell? ⟨R, 0, none⟩ = some (.slice (some ad) 0 cap) := by simpa using hR
    have hfz2 : w.drew.frozen? ⟨R, 0, none⟩ = false := by simpa using hfz
    have HU := Lib.hid (upd_drew R w)
    generalize w.drew = w2 at *
    clear hR hfz
    go_wp2
    all_goals
      go_ret
      exact ⟨_, rfl, rdr_set (l := []) (a := (some ad)) HU.out hbR hR2 hfz2 (Nat.zero_le _) (by unfold maxLen; omega) ⟨by unfold maxLen; simp, .inl rfl⟩⟩

set_option maxRecDepth 100000 in
set_option maxHeartbeats 400000 in
theorem take_bad' (a : Option Addr) (cap R n : Nat) (l : List UInt8) (w : World) (hR : w.cell? ⟨R, 0, none⟩ = some (.slice a l.length cap)) (hc2 : l.length ≤ maxLen) (hn : ¬ n ≤ l.length) (hn2 : n ≤ 18446744073709551615) :
    Calls Tryd.prog 60 #[.pointer (some ⟨R, 0, none⟩), .int .u64 n] w fun e w' => e = .panicked errCode ∧ w = w' := by
  unfold maxLen at hc2
  go_enter Tryd.func60, Tryd.ntmps60
  go_wp2
  exact ⟨rfl, rfl, rfl⟩

/-- take, where there are so many bytes. -/
theorem take_ok (Bd R n : Nat) (l : List UInt8) (w : World) (h : Rdr Bd R w l) (hn : n ≤ l.length) :
    Calls Tryd.prog 60 #[.pointer (some ⟨R, 0, none⟩), .int .u64 n] w fun e w' => ∃ a', e = .returned (.slice a' n n) ∧ RdB Bd w' a' (l.take n) ∧ Rdr Bd R w' (l.drop n) ∧ w.grownBy w' (some R) := by
  obtain ⟨h0, h1, a, cap, h2, h3, h4, h5⟩ := h
  have hlt := World.block_lt_of_cell? w _ h2
  rcases h5.2 with rfl | ⟨b, o, rfl, hb, hc⟩
  · obtain rfl : n = 0 := by simpa using hn
    refine (take_empty Bd cap R a w h0 h2 h1 h4).mono ?_
    rintro e w' ⟨a', rfl, h6, h7⟩
    exact ⟨a', rfl, ⟨Nat.zero_le _, .inl rfl⟩, h6, h7⟩
  · refine (take_some Bd b o cap R n l w h0 hb h2 h1 h3 h4 hn hc).mono ?_
    rintro e w' ⟨rfl, h6, h7⟩
    refine ⟨_, rfl, ⟨by rw [List.length_take]; have := h5.1; omega, .inr ⟨b, o, rfl, hb, fun j hj => ?_⟩⟩, h6, h7⟩
    rw [List.length_take] at hj
    rw [List.getElem_take, ← hc j (by omega)]
    exact World.cell?_of_block (w := w) (h7.block b (by simp at hlt; omega) (by intro e; injection e with e; omega))
theorem take_bad (Bd R n : Nat) (l : List UInt8) (w : World) (h : Rdr Bd R w l) (hn : ¬ n ≤ l.length) (hn2 : n ≤ 18446744073709551615) :
    Calls Tryd.prog 60 #[.pointer (some ⟨R, 0, none⟩), .int .u64 n] w fun e w' => e = .panicked errCode ∧ w = w' := by
  obtain ⟨h0, h1, a, cap, h2, h3, h4, h5⟩ := h
  exact take_bad' a cap R n l w h2 h5.1 hn hn2
end Go.Proofs.YthcbnanohjkllaaDoor

namespace Go.Proofs.YthcbnanohjkllaaDoor
open Go.RowKit

/-- Reads a numeral of at most f + 1 digits; the last of ten is at most 1; a digit 0 may end it only if it is the first. -/
def dn : Nat → Bool → List UInt8 → Option (Nat × List UInt8)
  | _, _, [] => none
  | 0, first, c :: r => if 1 < c.toNat then none else if c.toNat = 0 ∧ first = false then none else some (c.toNat, r)
  | f + 1, first, c :: r => if c.toNat < 128 then (if c.toNat = 0 ∧ first = false then none else some (c.toNat, r)) else (dn f false r).map fun x => (c.toNat - 128 + 128 * x.1, x.2)
/-- Reads a numeral. -/
def dnum (l : List UInt8) : Option (Nat × List UInt8) := dn 9 true l

/-- What is read is a numeral. -/
theorem dn_num : ∀ (f : Nat) (first : Bool) (l : List UInt8) (y : Nat) (r : List UInt8), dn f first l = some (y, r) → l = numF f y ++ r ∧ y < 2 * 128 ^ f ∧ (first = false → y ≠ 0)
  | _, _, [], y, r, h => by simp [dn] at h
  | 0, first, c :: l, y, r, h => by
    simp only [dn] at h
    split at h
    · cases h
    · split at h
      · cases h
      · rename_i h1 h2
        simp only [Option.some.injEq, Prod.mk.injEq] at h
        obtain ⟨rfl, rfl⟩ := h
        refine ⟨by simp [numF], by omega, fun hf hz => h2 ⟨hz, hf⟩⟩
  | f + 1, first, c :: l, y, r, h => by
    have hc := c.toNat_lt
    simp only [dn] at h
    split at h
    · split at h
      · cases h
      · rename_i h1 h2
        simp only [Option.some.injEq, Prod.mk.injEq] at h
        obtain ⟨rfl, rfl⟩ := h
        have : 0 < 128 ^ f := Nat.pow_pos (by decide)
        refine ⟨by simp [numF, h1], by rw [Nat.pow_succ]; omega, fun hf hz => h2 ⟨hz, hf⟩⟩
    · rename_i h1
      cases hd : dn f false l with
      | none => rw [hd] at h; cases h
      | some x =>
        obtain ⟨y', r'⟩ := x
        rw [hd] at h
        simp only [Option.map_some, Option.some.injEq, Prod.mk.injEq] at h
        obtain ⟨rfl, rfl⟩ := h
        obtain ⟨e1, e2, e3⟩ := dn_num f false l y' r' hd
        have := e3 rfl
        refine ⟨?_, by rw [Nat.pow_succ]; omega, by omega⟩
        rw [numF, if_neg (by omega), show (c.toNat - 128 + 128 * y') % 128 + 128 = c.toNat from by omega, show (c.toNat - 128 + 128 * y') / 128 = y' from by omega, e1]
        simp
/-- A numeral is read. -/
theorem dn_of : ∀ (f y : Nat) (first : Bool) (r : List UInt8), y < 2 * 128 ^ f → (first = false → y ≠ 0) → dn f first (numF f y ++ r) = some (y, r)
  | 0, y, first, r, h, h0 => by
    simp only [numF, List.cons_append, List.nil_append, dn]
    rw [show (UInt8.ofNat y).toNat = y from by simp; omega, if_neg (by omega), if_neg (fun hh => h0 hh.2 hh.1)]
  | f + 1, y, first, r, h, h0 => by
    simp only [numF]
    split
    · rename_i h1
      simp only [List.cons_append, List.nil_append, dn]
      rw [show (UInt8.ofNat y).toNat = y from by simp; omega, if_pos h1, if_neg (fun hh => h0 hh.2 hh.1)]
    · rename_i h1
      simp only [List.cons_append, dn]
      rw [show (UInt8.ofNat (y % 128 + 128)).toNat = y % 128 + 128 from by rw [UInt8.toNat_ofNat']; omega, if_neg (by omega), dn_of f (y / 128) false r (by rw [Nat.pow_succ] at h; omega) (by intro _; omega)]
      simp; omega
theorem dnum_some {l : List UInt8} {y : Nat} {r : List UInt8} (h : dnum l = some (y, r)) : l = numeral y ++ r ∧ y ≤ 18446744073709551615 := by
  obtain ⟨a, b, _⟩ := dn_num 9 true l y r h
  exact ⟨a, by omega⟩
theorem dnum_numeral (y : Nat) (r : List UInt8) (h : y ≤ 18446744073709551615) : dnum (numeral y ++ r) = some (y, r) := dn_of 9 y true r (by omega) (by simp)
theorem dn_short : ∀ (f : Nat) (first : Bool) (l : List UInt8) (y : Nat) (r : List UInt8), dn f first l = some (y, r) → r.length < l.length := fun f first l y r h => by
  have := (dn_num f first l y r h).1
  rw [this, List.length_append, numF_length]
  have h2 : 1 ≤ ndigF f y := by cases f <;> simp only [ndigF]; omega; split <;> omega
  omega

/-- What the loop of the reader comes to, at digit i, with the number u so far. -/
def dnAt (i u : Nat) (l : List UInt8) : Option (Nat × List UInt8) := (dn (9 - i) (i == 0) l).map fun x => (u + 128 ^ i * x.1, x.2)

set_option maxRecDepth 100000 in
set_option maxHeartbeats 400000 in
theorem take1 (Bd R : Nat) (c : UInt8) (r : List UInt8) (w : World) (h : Rdr Bd R w (c :: r)) :
    Calls Tryd.prog 60 #[.pointer (some ⟨R, 0, none⟩), .int .u64 1] w fun e w' => ∃ b o, e = .returned (.slice (some ⟨b, o, none⟩) 1 1) ∧ w'.cell? ⟨b, o, none⟩ = some (bv c) ∧ Rdr Bd R w' r ∧ w.grownBy w' (some R) := by
  refine (take_ok Bd R 1 (c :: r) w h (by simp)).mono ?_
  rintro e w' ⟨a', rfl, h1, h2, h3⟩
  rcases h1.2 with h4 | ⟨b, o, rfl, hb, hc⟩
  · simp at h4
  · exact ⟨b, o, rfl, by have := hc 0 (by simp); simpa using this, by simpa using h2, h3⟩
end Go.Proofs.YthcbnanohjkllaaDoor

namespace Go.Proofs.YthcbnanohjkllaaDoor
open Go.RowKit

/-- What a reading comes to: the number and what is left, or the panic. -/
def NumPost (Bd R : Nat) (w : World) (res : Option (Nat × List UInt8)) (e : Ending) (w' : World) : Prop :=
  (∃ y r, res = some (y, r) ∧ e = .returned (.int .u64 (y : Int)) ∧ Rdr Bd R w' r ∧ w.grownBy w' (some R)) ∨ (res = none ∧ e = .panicked errCode ∧ w.grownBy w' (some R))

theorem or_sh (u d k : Nat) (h : u < 2 ^ k) : u ||| (d * 2 ^ k) = u + d * 2 ^ k := by
  rw [← Nat.shiftLeft_eq, Nat.or_comm, ← Nat.shiftLeft_add_eq_or_of_lt h, Nat.add_comm]
theorem or_digit (u d j : Nat) (hu : u < 128 ^ j) (hd : d < 128) (hj : j < 9) :
    bits .or .u64 (u : Int) (IntKind.u64.wrap ((d : Int) % 128 * 2 ^ (7 * j))) = ((u + 128 ^ j * d : Nat) : Int) := by
  have e : 128 ^ j = 2 ^ (7 * j) := by rw [Nat.pow_mul]
  have h1 : 2 ^ (7 * j) ≤ 2 ^ 56 := Nat.pow_le_pow_right (by decide) (by omega)
  have h2 : d * 2 ^ (7 * j) ≤ 127 * 2 ^ 56 := Nat.mul_le_mul (by omega) h1
  have h3 : ((d : Int) % 128 * 2 ^ (7 * j)) = ((d * 2 ^ (7 * j) : Nat) : Int) := by
    rw [show (d : Int) % 128 = (d : Int) from by omega]; simp
  rw [e] at hu
  rw [h3, IntKind.wrap_u64, show (((d * 2 ^ (7 * j) : Nat) : Int) % 18446744073709551616) = ((d * 2 ^ (7 * j) : Nat) : Int) from by omega, bits_or_u64_nat _ _ (by omega) (by omega), or_sh _ _ _ hu, e, Nat.mul_comm]
theorem or_digit9 (u d : Nat) (hu : u < 128 ^ 9) (hd : d ≤ 1) :
    bits .or .u64 (u : Int) ((d : Int) % 128 * 9223372036854775808) = ((u + 128 ^ 9 * d : Nat) : Int) := by
  have h3 : ((d : Int) % 128 * 9223372036854775808) = ((d * 2 ^ 63 : Nat) : Int) := by omega
  rw [h3, bits_or_u64_nat _ _ (by omega) (by omega), or_sh _ _ _ (by omega)]
  omega
theorem or_zero (u : Nat) (hu : u < 18446744073709551616) : bits .or .u64 (u : Int) 0 = (u : Int) := by
  have := bits_or_u64_nat u 0 hu (by omega)
  rw [Nat.or_zero] at this; exact this
theorem num_ret {Bd R : Nat} {w w' : World} {res : Option (Nat × List UInt8)} {x : Int} {y : Nat} {r : List UInt8} (h : res = some (y, r)) (hx : x = (y : Int)) (h1 : Rdr Bd R w' r) (h2 : w.grownBy w' (some R)) : NumPost Bd R w res (.returned (.int .u64 x)) w' := by
  subst hx; exact .inl ⟨y, r, h, rfl, h1, h2⟩

set_option maxRecDepth 100000 in
set_option maxHeartbeats 800000 in
theorem numeral_any (Bd R : Nat) (l : List UInt8) (w : World) (h : Rdr Bd R w l) :
    Calls Tryd.prog 62 #[.pointer (some ⟨R, 0, none⟩)] w (NumPost Bd R w (dnum l)) := by
  have H0 : Hid (dnAt 0 0 l = dnum l) := by show _ = _; simp [dnAt, dnum]
  have HR := Lib.hid h
  clear h
  go_enter Tryd.func62, Tryd.ntmps62
  go_wp2
  go_loopw [5, 2] (fun i x wr => ∃ (j u : Nat) (l' : List UInt8), i = .int .i64 j ∧ x = .int .u64 u ∧ j ≤ 9 ∧ Hid (u < 128 ^ j) ∧ Hid (Rdr Bd R wr l') ∧ Hid (dnAt j u l' = dnum l) ∧ w.grownBy wr (some R)) (fun i _ _ => 10 - (intOf i).toNat)
  case atStart => exact ⟨0, 0, l, rfl, rfl, by omega, by show _ < _; simp, HR, H0, ⟨rfl, rfl, rfl, Nat.le_refl _, fun _ _ _ => rfl⟩⟩
  case round =>
    obtain ⟨j, u, l', rfl, rfl, hj, HU, HRd, HD, hg⟩ := hrel
    have HG := Lib.hid hg
    clear hg
    cases l' with
    | nil =>
      have HN : Hid (dnum l = none) := by show _ = _; rw [← HD.out]; unfold dnAt; cases (9 - j) <;> rfl
      go_wp2_with (go_at_call 60; refine (take_bad Bd R 1 [] _ HRd.out (by simp) (by omega)).mono ?_; rintro e w1 ⟨rfl, rfl⟩)
      exact ⟨rfl, .inr ⟨HN.out, rfl, HG.out⟩⟩
    | cons c r =>
      have hcl := c.toNat_lt
      by_cases h1 : j = 9 ∧ 1 < c.toNat
      · obtain ⟨h1, h2⟩ := h1
        have HN : Hid (dnum l = none) := by show _ = _; rw [← HD.out]; unfold dnAt; rw [h1]; simp only [Nat.sub_self, dn]; rw [if_pos h2]; rfl
        subst h1
        have hcg : (1 : Int) < (c.toNat : Int) := by omega
        go_wp2_with (go_at_call 60; refine (take1 Bd R c r _ HRd.out).mono ?_; rintro e w1 ⟨b, o, rfl, hc, hrd, hg1⟩; have HG1 := Lib.hid (upd_trans HG.out hg1); unfold bv at hc; clear hrd hg1)
        exact ⟨rfl, .inr ⟨HN.out, rfl, HG1.out⟩⟩
      by_cases h3 : c.toNat < 128
      · by_cases h4 : c.toNat = 0 ∧ 0 < j
        · obtain ⟨h4, h5⟩ := h4
          have HN : Hid (dnum l = none) := by
            show _ = _; rw [← HD.out]; unfold dnAt
            have hb : (j == 0) = false := by simp; omega
            rw [hb]
            cases (9 - j) with
            | zero => simp only [dn]; rw [if_neg (by omega), if_pos ⟨h4, by trivial⟩]; rfl
            | succ f => simp only [dn]; rw [if_pos h3, if_pos ⟨h4, by trivial⟩]; rfl
          have hcg : ((c.toNat : Int)) = 0 := by omega
          have hc0 : ((c.toNat : Int) == 0) = true := by simp [h4]
          have hc1 : ¬ (1 : Int) < (c.toNat : Int) := by omega
          have hj0 : (0 : Int) < (j : Int) := by omega
          have hd0 : decide ((0 : Int) < (j : Int)) = true := by simpa using hj0
          go_wp2_with (go_at_call 60; refine (take1 Bd R c r _ HRd.out).mono ?_; rintro e w1 ⟨b, o, rfl, hc, hrd, hg1⟩; have HG1 := Lib.hid (upd_trans HG.out hg1); have HR1 := Lib.hid hrd; unfold bv at hc; clear hrd hg1)
          all_goals exact ⟨rfl, .inr ⟨HN.out, rfl, HG1.out⟩⟩
        · have HN : Hid (dnum l = some (u + 128 ^ j * c.toNat, r)) := by
            show _ = _; rw [← HD.out]; unfold dnAt
            have hb : ¬ (c.toNat = 0 ∧ (j == 0) = false) := by
              rintro ⟨x1, x2⟩; exact h4 ⟨x1, by simp at x2; omega⟩
            cases hf : (9 - j) with
            | zero => simp only [dn]; rw [if_neg (by omega), if_neg hb]; rfl
            | succ f => simp only [dn]; rw [if_pos h3, if_neg hb]; rfl
          by_cases h5 : c.toNat = 0
          · have hj0 : j = 0 := by omega
            subst hj0
            have hcg : ((c.toNat : Int)) = 0 := by omega
            have hc0 : ((c.toNat : Int) == 0) = true := by simp [h5]
            go_wp2_with (go_at_call 60; refine (take1 Bd R c r _ HRd.out).mono ?_; rintro e w1 ⟨b, o, rfl, hc, hrd, hg1⟩; have HG1 := Lib.hid (upd_trans HG.out hg1); have HR1 := Lib.hid hrd; unfold bv at hc; clear hrd hg1)
            go_ret
            refine num_ret HN.out ?_ HR1.out HG1.out
            rw [or_zero u (by have := HU.out; omega), h5]; simp
          · have hc0 : ((c.toNat : Int) == 0) = false := by simp [h5]
            by_cases h9 : j = 9
            · subst h9
              have hc1 : ¬ (1 : Int) < (c.toNat : Int) := by omega
              go_wp2_with (go_at_call 60; refine (take1 Bd R c r _ HRd.out).mono ?_; rintro e w1 ⟨b, o, rfl, hc, hrd, hg1⟩; have HG1 := Lib.hid (upd_trans HG.out hg1); have HR1 := Lib.hid hrd; unfold bv at hc; clear hrd hg1)
              go_ret
              exact num_ret HN.out (or_digit9 u c.toNat HU.out (by omega)) HR1.out HG1.out
            · have h9' : ((j : Int) == 9) = false := by simp; omega
              have hcc : (c.toNat : Int) < 128 := by omega
              go_wp2_with (go_at_call 60; refine (take1 Bd R c r _ HRd.out).mono ?_; rintro e w1 ⟨b, o, rfl, hc, hrd, hg1⟩; have HG1 := Lib.hid (upd_trans HG.out hg1); have HR1 := Lib.hid hrd; unfold bv at hc; clear hrd hg1)
              go_ret
              exact num_ret HN.out (or_digit u c.toNat j HU.out (by omega) (by omega)) HR1.out HG1.out
      · have hj8 : j < 9 := by omega
        have HN : Hid (dnAt (j + 1) (u + 128 ^ j * (c.toNat - 128)) r = dnum l) := by
          show _ = _; rw [← HD.out]; unfold dnAt
          rw [show 9 - j = (9 - (j + 1)) + 1 from by omega, show (j + 1 == 0) = false from by simp]
          simp only [dn]; rw [if_neg h3]
          cases dn (9 - (j + 1)) false r with
          | none => rfl
          | some x =>
            simp only [Option.map_some]
            congr 2
            rw [Nat.pow_succ, Nat.mul_add, Nat.mul_assoc, Nat.add_assoc]
        have h9' : ((j : Int) == 9) = false := by simp; omega
        have hcc : ¬ (c.toNat : Int) < 128 := by omega
        have HU' : Hid (u + 128 ^ j * (c.toNat - 128) < 128 ^ (j + 1)) := by
          show _ < _
          have h1 := HU.out
          have h2 : 128 ^ j * (c.toNat - 128) ≤ 128 ^ j * 127 := Nat.mul_le_mul (Nat.le_refl _) (by omega)
          rw [Nat.pow_succ]; omega
        go_wp2_with (go_at_call 60; refine (take1 Bd R c r _ HRd.out).mono ?_; rintro e w1 ⟨b, o, rfl, hc, hrd, hg1⟩; have HG1 := Lib.hid (upd_trans HG.out hg1); have HR1 := Lib.hid hrd; unfold bv at hc; clear hrd hg1)
        go_roundw
        case rel =>
          refine ⟨j + 1, u + 128 ^ j * (c.toNat - 128), r, by go_num, ?_, by omega, HU', HR1, HN, HG1.out⟩
          have h1 := or_digit u (c.toNat - 128) j HU.out (by omega) hj8
          rw [show (((c.toNat - 128 : Nat) : Int)) % 128 = (c.toNat : Int) % 128 from by omega] at h1
          rw [h1]
        case measure => simp [intOf]; omega
end Go.Proofs.YthcbnanohjkllaaDoor

namespace Go.Proofs.YthcbnanohjkllaaDoor
open Go.RowKit

/-- As RepL, all blocks as 'ok' says. -/
def RepP (ok : Nat → Prop) (w : World) : Nat → Nat → VL → Prop
  | _, _, .nil => True
  | b, o, .cons k n s kids r => ok b ∧ I64 k ∧ I64 n ∧ s.size ≤ maxLen ∧
      w.cell? ⟨b, o, none⟩ = some (.int .i64 k) ∧ w.cell? ⟨b, o + 1, none⟩ = some (.int .i64 n) ∧ w.cell? ⟨b, o + 2, none⟩ = some (.string s) ∧
      (∃ a cap, w.cell? ⟨b, o + 3, none⟩ = some (.slice a kids.len cap) ∧ kids.len ≤ maxLen ∧ (((a = none → cap = 0) ∧ kids = .nil) ∨ ∃ b' o', a = some ⟨b', o', none⟩ ∧ RepP ok w b' o' kids)) ∧
      RepP ok w b (o + 4) r
def RepQ (ok : Nat → Prop) (w : World) (a : Option Addr) (cap : Nat) (kids : VL) : Prop :=
  kids.len ≤ maxLen ∧ (((a = none → cap = 0) ∧ kids = .nil) ∨ ∃ b' o', a = some ⟨b', o', none⟩ ∧ RepP ok w b' o' kids)

theorem RepP.keep {ok ok' : Nat → Prop} {w w' : World} (h0 : ∀ k, ok k → ok' k) (h1 : ∀ k, ok k → w'.heap[k]? = w.heap[k]?) : ∀ (f : VL) (b o : Nat), RepP ok w b o f → RepP ok' w' b o f := by
  intro f
  induction f with
  | nil => intro b o _; trivial
  | cons k n s kids r ihk ihr =>
    intro b o h
    obtain ⟨g0, g1, g2, g3, g4, g5, g6, ⟨a, cap, g7, hl, g8⟩, g9⟩ := h
    have c : ∀ j, w'.cell? ⟨b, j, none⟩ = w.cell? ⟨b, j, none⟩ := fun j => World.cell?_of_block (w := w) (h1 b g0)
    refine ⟨h0 _ g0, g1, g2, g3, (c _).trans g4, (c _).trans g5, (c _).trans g6, ⟨a, cap, (c _).trans g7, hl, ?_⟩, ihr _ _ g9⟩
    rcases g8 with g8 | ⟨b', o', e, g8⟩
    · exact .inl g8
    · exact .inr ⟨b', o', e, ihk _ _ g8⟩
theorem RepQ.keep {ok ok' : Nat → Prop} {w w' : World} (h0 : ∀ k, ok k → ok' k) (h1 : ∀ k, ok k → w'.heap[k]? = w.heap[k]?) {a : Option Addr} {cap : Nat} {f : VL} (h : RepQ ok w a cap f) : RepQ ok' w' a cap f := by
  obtain ⟨hl, h⟩ := h
  rcases h with h8 | ⟨b', o', e, h8⟩
  · exact ⟨hl, .inl h8⟩
  · exact ⟨hl, .inr ⟨b', o', e, h8.keep h0 h1 _ _ _⟩⟩
theorem RepP.toL {B : Nat} {ok : Nat → Prop} {w : World} (hB : ∀ k, ok k → k < B) : ∀ (f : VL) (b o : Nat), RepP ok w b o f → RepL B w b o f := by
  intro f
  induction f with
  | nil => intro b o _; trivial
  | cons k n s kids r ihk ihr =>
    intro b o h
    obtain ⟨g0, g1, g2, g3, g4, g5, g6, ⟨a, cap, g7, hl, g8⟩, g9⟩ := h
    refine ⟨hB _ g0, g1, g2, g3, g4, g5, g6, ⟨a, cap, g7, hl, ?_⟩, ihr _ _ g9⟩
    rcases g8 with g8 | ⟨b', o', e, g8⟩
    · exact .inl g8
    · exact .inr ⟨b', o', e, ihk _ _ g8⟩
theorem RepQ.toS {B : Nat} {ok : Nat → Prop} {w : World} (hB : ∀ k, ok k → k < B) {a : Option Addr} {cap : Nat} {f : VL} (h : RepQ ok w a cap f) : RepS B w a cap f := by
  obtain ⟨hl, h⟩ := h
  rcases h with h8 | ⟨b', o', e, h8⟩
  · exact ⟨hl, .inl h8⟩
  · exact ⟨hl, .inr ⟨b', o', e, h8.toL hB _ _ _⟩⟩

/-- The cells of the values of a forest. -/
def CellsP (ok : Nat → Prop) (w : World) : List Value → VL → Prop
  | cs, .nil => cs = []
  | cs, .cons k n s kids r => ∃ a cap cs', cs = .int .i64 k :: .int .i64 n :: .string s :: .slice a kids.len cap :: cs' ∧ I64 k ∧ I64 n ∧ s.size ≤ maxLen ∧ RepQ ok w a cap kids ∧ CellsP ok w cs' r
def VL.app : VL → VL → VL
  | .nil, g => g
  | .cons k n s kids r, g => .cons k n s kids (r.app g)
theorem VL.app_nil : ∀ f : VL, f.app .nil = f
  | .nil => rfl
  | .cons k n s kids r => by simp only [VL.app, VL.app_nil r]
theorem VL.app_assoc : ∀ f g h : VL, (f.app g).app h = f.app (g.app h)
  | .nil, _, _ => rfl
  | .cons k n s kids r, g, h => by simp only [VL.app, VL.app_assoc r g h]
theorem VL.len_app : ∀ f g : VL, (f.app g).len = f.len + g.len
  | .nil, g => by simp [VL.app, VL.len]
  | .cons k n s kids r, g => by simp only [VL.app, VL.len, VL.len_app r g]; omega
theorem CellsP.keep {ok ok' : Nat → Prop} {w w' : World} (h0 : ∀ k, ok k → ok' k) (h1 : ∀ k, ok k → w'.heap[k]? = w.heap[k]?) : ∀ (f : VL) (cs : List Value), CellsP ok w cs f → CellsP ok' w' cs f
  | .nil, _, h => h
  | .cons k n s kids r, cs, ⟨a, cap, cs', e, g1, g2, g3, g4, g5⟩ => ⟨a, cap, cs', e, g1, g2, g3, g4.keep h0 h1, CellsP.keep h0 h1 r cs' g5⟩
theorem CellsP.snoc {ok : Nat → Prop} {w : World} {k n : Int} {s : ByteArray} {kids : VL} {a : Option Addr} {cap : Nat} (hk : I64 k) (hn : I64 n) (hs : s.size ≤ maxLen) (hr : RepQ ok w a cap kids) :
    ∀ (f : VL) (cs : List Value), CellsP ok w cs f → CellsP ok w (cs ++ [.int .i64 k, .int .i64 n, .string s, .slice a kids.len cap]) (f.app (.cons k n s kids .nil))
  | .nil, cs, h => by
    have : cs = [] := h
    subst this
    exact ⟨a, cap, [], rfl, hk, hn, hs, hr, rfl⟩
  | .cons k' n' s' kids' r, cs, ⟨a', cap', cs', e, g1, g2, g3, g4, g5⟩ => by
    subst e
    exact ⟨a', cap', _, rfl, g1, g2, g3, g4, CellsP.snoc hk hn hs hr r cs' g5⟩
/-- The cells of a row, in memory. -/
theorem CellsP.rep {ok : Nat → Prop} {w : World} (b : Nat) (hb : ok b) : ∀ (f : VL) (cs : List Value) (o : Nat), CellsP ok w cs f → (∀ j u, cs[j]? = some u → w.cell? ⟨b, o + j, none⟩ = some u) → RepP ok w b o f
  | .nil, _, _, _, _ => trivial
  | .cons k n s kids r, cs, o, ⟨a, cap, cs', e, g1, g2, g3, g4, g5⟩, hc => by
    subst e
    refine ⟨hb, g1, g2, g3, hc 0 _ rfl, hc 1 _ rfl, hc 2 _ rfl, ⟨a, cap, hc 3 _ rfl, g4.1, g4.2⟩, CellsP.rep b hb r cs' (o + 4) g5 fun j u hu => ?_⟩
    have := hc (j + 4) u (by simpa using hu)
    rwa [show o + 4 + j = o + (j + 4) from by omega]

/-- A list of values that the call owns. -/
def OwnV (ok : Nat → Prop) (B : Nat) (w : World) (v : Value) (f : VL) : Prop := ∃ cs, w.ownsRow B 40 4 v f.len cs ∧ CellsP ok w cs f
theorem OwnV.nil (ok : Nat → Prop) (B : Nat) (w : World) : OwnV ok B w (.slice none 0 0) .nil := ⟨[], World.ownsRow_nil _ _ _ _, rfl⟩
/-- It is a value's elements. -/
theorem OwnV.rep {ok ok' : Nat → Prop} {B : Nat} {w : World} {v : Value} {f : VL} (h : OwnV ok B w v f) (h0 : ∀ k, ok k → ok' k) (h1 : ∀ k, B ≤ k → k < w.heap.size → ok' k) : ∃ a cap, v = .slice a f.len cap ∧ RepQ ok' w a cap f := by
  obtain ⟨cs, ho, hc⟩ := h
  have hcell := @World.ownsRow.cells w B 40 4 v f.len cs ho
  rcases ho.2 with ⟨rfl, hl⟩ | ⟨g, cap, cur, rfl, hg, hh, h3, h4, r⟩
  · have : f = .nil := VL.nil_of_len hl
    subst this
    exact ⟨none, 0, rfl, by simp [VL.len], .inl ⟨fun _ => rfl, rfl⟩⟩
  · have hg2 := (Array.getElem?_eq_some_iff.1 hh).1
    refine ⟨some ⟨g, 0, none⟩, cap, rfl, by omega, .inr ⟨g, 0, rfl, ?_⟩⟩
    refine CellsP.rep g (h1 g hg hg2) f cs 0 (hc.keep h0 (fun _ _ => rfl)) fun j u hu => ?_
    have := hcell (g := g) rfl j u hu
    rw [addr_add] at this
    exact this

/-! ### The plain decoder -/
structure Val where
  k : Int
  n : Int
  s : ByteArray
  kids : VL

def dlist (one : List UInt8 → Option (Val × List UInt8)) : Nat → List UInt8 → Option (VL × List UInt8)
  | 0, l => some (.nil, l)
  | c + 1, l => match one l with
    | none => none
    | some (v, l1) => (dlist one c l1).map fun x => (.cons v.k v.n v.s v.kids x.1, x.2)
/-- Reads a value in which lists may lie within each other to a depth. -/
def dval : Nat → List UInt8 → Option (Val × List UInt8)
  | _, [] => none
  | 0, t :: l =>
    if t.toNat = 1 then (dnum l).map fun x => (⟨1, zag x.1, ByteArray.empty, .nil⟩, x.2)
    else if t.toNat = 2 then (dnum l).bind fun x => if x.1 ≤ x.2.length then some (⟨2, 0, ⟨(x.2.take x.1).toArray⟩, .nil⟩, x.2.drop x.1) else none
    else none
  | d + 1, t :: l =>
    if t.toNat = 1 then (dnum l).map fun x => (⟨1, zag x.1, ByteArray.empty, .nil⟩, x.2)
    else if t.toNat = 2 then (dnum l).bind fun x => if x.1 ≤ x.2.length then some (⟨2, 0, ⟨(x.2.take x.1).toArray⟩, .nil⟩, x.2.drop x.1) else none
    else if t.toNat = 3 then (dnum l).bind fun x => (dlist (dval d) x.1 x.2).map fun y => (⟨3, 0, ByteArray.empty, y.1⟩, y.2)
    else none
theorem dnum_short {l : List UInt8} {y : Nat} {r : List UInt8} (h : dnum l = some (y, r)) : r.length < l.length := dn_short 9 true l y r h
theorem dlist_short {one : List UInt8 → Option (Val × List UInt8)} (h1 : ∀ l v r, one l = some (v, r) → r.length < l.length) : ∀ (c : Nat) (l : List UInt8) (f : VL) (r : List UInt8), dlist one c l = some (f, r) → r.length + c ≤ l.length
  | 0, l, f, r, h => by simp only [dlist, Option.some.injEq, Prod.mk.injEq] at h; rw [h.2]; omega
  | c + 1, l, f, r, h => by
    simp only [dlist] at h
    cases ho : one l with
    | none => rw [ho] at h; cases h
    | some x =>
      obtain ⟨v, l1⟩ := x
      rw [ho] at h
      simp only at h
      cases hd : dlist one c l1 with
      | none => rw [hd] at h; cases h
      | some y =>
        obtain ⟨g, r'⟩ := y
        rw [hd] at h
        simp only [Option.map_some, Option.some.injEq, Prod.mk.injEq] at h
        have h2 := h1 l v l1 ho
        have h3 := dlist_short h1 c l1 g r' hd
        rw [← h.2]; omega
theorem dval_short : ∀ (d : Nat) (l : List UInt8) (v : Val) (r : List UInt8), dval d l = some (v, r) → r.length < l.length := by
  intro d
  induction d with
  | zero =>
    intro l v r h
    cases l with
    | nil => simp [dval] at h
    | cons t l =>
      simp only [dval] at h
      split at h
      · cases hn : dnum l with
        | none => rw [hn] at h; cases h
        | some x =>
          rw [hn] at h; simp only [Option.map_some, Option.some.injEq, Prod.mk.injEq] at h
          have := dnum_short hn; rw [← h.2]; simp only [List.length_cons]; omega
      · split at h
        · cases hn : dnum l with
          | none => rw [hn] at h; cases h
          | some x =>
            rw [hn] at h; simp only [Option.bind_some] at h
            split at h
            · simp only [Option.some.injEq, Prod.mk.injEq] at h
              have := dnum_short hn; rw [← h.2]; simp only [List.length_cons, List.length_drop]; omega
            · cases h
        · cases h
  | succ d ih =>
    intro l v r h
    cases l with
    | nil => simp [dval] at h
    | cons t l =>
      simp only [dval] at h
      split at h
      · cases hn : dnum l with
        | none => rw [hn] at h; cases h
        | some x =>
          rw [hn] at h; simp only [Option.map_some, Option.some.injEq, Prod.mk.injEq] at h
          have := dnum_short hn; rw [← h.2]; simp only [List.length_cons]; omega
      · split at h
        · cases hn : dnum l with
          | none => rw [hn] at h; cases h
          | some x =>
            rw [hn] at h; simp only [Option.bind_some] at h
            split at h
            · simp only [Option.some.injEq, Prod.mk.injEq] at h
              have := dnum_short hn; rw [← h.2]; simp only [List.length_cons, List.length_drop]; omega
            · cases h
        · split at h
          · cases hn : dnum l with
            | none => rw [hn] at h; cases h
            | some x =>
              rw [hn] at h; simp only [Option.bind_some] at h
              cases hd : dlist (dval d) x.1 x.2 with
              | none => rw [hd] at h; cases h
              | some y =>
                obtain ⟨g, r'⟩ := y
                rw [hd] at h
                simp only [Option.map_some, Option.some.injEq, Prod.mk.injEq] at h
                have h1 := dnum_short hn
                have h2 := dlist_short ih _ _ _ _ hd
                rw [← h.2]; simp only [List.length_cons]; omega
          · cases h
end Go.Proofs.YthcbnanohjkllaaDoor

namespace Go.Proofs.YthcbnanohjkllaaDoor
open Go.RowKit

theorem Rdr.lt {Bd R : Nat} {w : World} {l : List UInt8} (h : Rdr Bd R w l) : R < w.heap.size := by
  obtain ⟨h0, h1, a, cap, h2, h3, h4, h5⟩ := h
  exact World.block_lt_of_cell? w _ h2
theorem Rdr.same {Bd R : Nat} {w w' : World} {l : List UInt8} (h : Rdr Bd R w l) (hb : Below w.heap.size w w') : Rdr Bd R w' l := by
  have hlt := h.lt
  obtain ⟨h0, h1, a, cap, h2, h3, h4, h5⟩ := h
  exact ⟨h0, (hb.frozen (p := ⟨R, 0, none⟩) hlt).trans h1, a, cap, (hb.cell (p := ⟨R, 0, none⟩) hlt).trans h2, h3, h4, h5.below (hb.mono (by omega))⟩
theorem upd_same {R : Nat} {w w1 w2 : World} (h : w.grownBy w1 (some R)) (hb : Below w1.heap.size w1 w2) : w.grownBy w2 (some R) := upd_trans h ⟨hb.os, hb.tape, hb.output, hb.size, fun k hk _ => hb.block k hk⟩
theorem upd_of {R : Nat} {w w2 : World} (hb : Below w.heap.size w w2) : w.grownBy w2 (some R) := ⟨hb.os, hb.tape, hb.output, hb.size, fun k hk _ => hb.block k hk⟩

/-- What reading a value comes to. -/
def ValPost (Bd R : Nat) (w : World) (res : Option (Val × List UInt8)) (e : Ending) (w' : World) : Prop :=
  (∃ v a cap r, res = some (v, r) ∧ e = .returned (.agg #[.int .i64 v.k, .int .i64 v.n, .string v.s, .slice a v.kids.len cap]) ∧ Rdr Bd R w' r ∧ w.grownBy w' (some R) ∧ I64 v.k ∧ I64 v.n ∧ v.s.size ≤ maxLen ∧ RepQ (fun b => w.heap.size ≤ b ∧ b < w'.heap.size) w' a cap v.kids) ∨
  (res = none ∧ e = .panicked errCode ∧ w.grownBy w' (some R))

/-- The named result of value: a block of four cells, in a later world. -/
theorem box4_upd {w w1 : World} {x0 x1 x2 x3 : Value} {T : TypeId} {R : Nat} (hR : R < w.heap.size) (h : (w.alloc (.cells #[x0, x1, x2, x3] T)).grownBy w1 (some R)) :
    w1.cell? ⟨w.heap.size, 0, none⟩ = some x0 ∧ w1.cell? ⟨w.heap.size, 1, none⟩ = some x1 ∧ w1.cell? ⟨w.heap.size, 2, none⟩ = some x2 ∧ w1.cell? ⟨w.heap.size, 3, none⟩ = some x3 ∧ (∀ j, w1.frozen? ⟨w.heap.size, j, none⟩ = false) := by
  have hb := h.block w.heap.size (by simp) (by intro e; injection e with e; omega)
  refine ⟨?_, ?_, ?_, ?_, fun j => ?_⟩
  · rw [World.cell?_of_block (w := w.alloc (.cells #[x0, x1, x2, x3] T)) (a := ⟨w.heap.size, 0, none⟩) hb]; simp
  · rw [World.cell?_of_block (w := w.alloc (.cells #[x0, x1, x2, x3] T)) (a := ⟨w.heap.size, 1, none⟩) hb]; simp
  · rw [World.cell?_of_block (w := w.alloc (.cells #[x0, x1, x2, x3] T)) (a := ⟨w.heap.size, 2, none⟩) hb]; simp
  · rw [World.cell?_of_block (w := w.alloc (.cells #[x0, x1, x2, x3] T)) (a := ⟨w.heap.size, 3, none⟩) hb]; simp
  · rw [World.frozen?_of_block (w := w.alloc (.cells #[x0, x1, x2, x3] T)) (a := ⟨w.heap.size, j, none⟩) hb]; simp

theorem upd_cell {w w1 : World} {r : Option Nat} (h : w.grownBy w1 r) {N j : Nat} (hr : r = some N) (v : Value) : w.grownBy (w1.setCell ⟨N, j, none⟩ v) r :=
  ⟨h.os, h.tape, h.output, by simpa using h.size, fun k hk hn => by rw [Below.heap_setCell _ _ _ _ (by intro e; exact hn (by rw [hr, e]))]; exact h.block k hk hn⟩
theorem upd_set4 (w : World) (N : Nat) (v0 v1 v2 v3 : Value) : w.grownBy ((((w.setCell ⟨N, 0, none⟩ v0).setCell ⟨N, 1, none⟩ v1).setCell ⟨N, 2, none⟩ v2).setCell ⟨N, 3, none⟩ v3) (some N) :=
  upd_cell (upd_cell (upd_cell (upd_cell ⟨rfl, rfl, rfl, Nat.le_refl _, fun _ _ _ => rfl⟩ rfl _) rfl _) rfl _) rfl _
/-- A block of the call's own is written. -/
theorem upd_new {w w2 w3 : World} {R N : Nat} (h : w.grownBy w2 (some R)) (k : w2.grownBy w3 (some N)) (hN : w.heap.size ≤ N) : w.grownBy w3 (some R) :=
  ⟨k.os.trans h.os, k.tape.trans h.tape, k.output.trans h.output, Nat.le_trans h.size k.size, fun i hi hn => (k.block i (Nat.lt_of_lt_of_le hi h.size) (by intro e; injection e with e; omega)).trans (h.block i hi hn)⟩
theorem Rdr.upd {Bd R N : Nat} {w w' : World} {l : List UInt8} (h : Rdr Bd R w l) (hu : w.grownBy w' (some N)) (hN : R < N) : Rdr Bd R w' l := by
  have hlt := h.lt
  obtain ⟨h0, h1, a, cap, h2, h3, h4, h5⟩ := h
  have hb : Below (R + 1) w w' := (Below.refl _ _).grown hu (by omega) fun k hk => by injection hk with hk; omega
  exact ⟨h0, (hb.frozen (p := ⟨R, 0, none⟩) (by simp)).trans h1, a, cap, (hb.cell (p := ⟨R, 0, none⟩) (by simp)).trans h2, h3, h4, h5.below (hb.mono (by omega))⟩
theorem Rdr.below {Bd R B : Nat} {w w' : World} {l : List UInt8} (h : Rdr Bd R w l) (hRB : R < B) (hb : Below B w w') : Rdr Bd R w' l := by
  obtain ⟨h0, h1, a, cap, h2, h3, h4, h5⟩ := h
  exact ⟨h0, (hb.frozen (p := ⟨R, 0, none⟩) hRB).trans h1, a, cap, (hb.cell (p := ⟨R, 0, none⟩) hRB).trans h2, h3, h4, h5.below (hb.mono (by omega))⟩
theorem upd_below2 {R : Nat} {w w2 w3 : World} (h : w.grownBy w2 (some R)) (hb : Below w.heap.size w2 w3) : w.grownBy w3 (some R) :=
  ⟨hb.os.trans h.os, hb.tape.trans h.tape, hb.output.trans h.output, Nat.le_trans h.size hb.size, fun k hk hn => (hb.block k hk).trans (h.block k hk hn)⟩
theorem zag_bd {y : Nat} (h : y ≤ 18446744073709551615) : I64 (zag y) := by
  unfold I64 zag; split <;> omega
theorem i64_0 : I64 0 := by unfold I64; omega
theorem i64_1 : I64 1 := by unfold I64; omega
theorem i64_2 : I64 2 := by unfold I64; omega
theorem i64_3 : I64 3 := by unfold I64; omega

set_option maxRecDepth 100000 in
set_option maxHeartbeats 800000 in
theorem value_int (Bd R : Nat) (x : Int) (t : UInt8) (l : List UInt8) (w : World) (h : Rdr Bd R w (t :: l)) (ht : t.toNat = 1) :
    Calls Tryd.prog 41 #[.pointer (some ⟨R, 0, none⟩), .int .i64 x] w (ValPost Bd R w ((dnum l).map fun x => (⟨1, zag x.1, ByteArray.empty, .nil⟩, x.2))) := by
  have HR := Lib.hid h
  have hlt := h.lt
  clear h
  have hbt : bv t = .int .u8 1 := by unfold bv; rw [ht]; rfl
  go_enter Tryd.func41, Tryd.ntmps41
  go_wp2_with fail
  refine (take1 Bd R t l _ (HR.out.same ((Below.refl _ _).alloc (Nat.le_refl _) _))).mono ?_
  rintro e w1 ⟨b, o, rfl, hc, hrd, hg1⟩
  rw [hbt] at hc
  have HR1 := Lib.hid hrd
  have HG1 := Lib.hid (upd_trans (upd_of ((Below.refl _ _).alloc (Nat.le_refl _) _)) hg1)
  have hz : w.heap.size + 1 ≤ w1.heap.size := by simpa using hg1.size
  have HA1 := Lib.hid hg1
  clear hrd hg1
  go_wp2_with fail
  refine (numeral_any Bd R l _ HR1.out).mono ?_
  intro e w2 hp
  rcases hp with ⟨y, r, hd, rfl, hrd, hg⟩ | ⟨hd, rfl, hg⟩
  · have hy := (dnum_some hd).2
    have HD := Lib.hid hd
    obtain ⟨c0, c1, c2, c3, cf⟩ := box4_upd hlt (upd_trans HA1.out hg)
    have HR2 := Lib.hid hrd
    have HG2 := Lib.hid (upd_trans HG1.out hg)
    clear hd hrd hg
    go_wp2_with (go_at_call 61; refine (codecSigned y hy _).mono ?_; rintro e w' ⟨rfl, rfl⟩)
    refine bodyPost_ret (v := .agg #[.int .i64 1, .int .i64 (zag y), .string ByteArray.empty, .slice none 0 0]) (by simp [results, Tryd.results41, go_sem, c0, c1, c2, c3]; rfl) rfl ?_
    have hu := upd_set4 w2 w.heap.size (.int .i64 1) (.int .i64 (zag y)) (.string ByteArray.empty) (.slice none 0 0)
    exact .inl ⟨⟨1, zag y, ByteArray.empty, .nil⟩, none, 0, r, by rw [HD.out]; rfl, rfl, HR2.out.upd hu hlt, upd_new HG2.out hu (Nat.le_refl _), i64_1, zag_bd hy, Nat.zero_le _, Nat.zero_le _, .inl ⟨fun _ => rfl, rfl⟩⟩
  · have HD := Lib.hid hd
    exact ⟨rfl, .inr ⟨by rw [HD.out]; rfl, rfl, upd_trans HG1.out hg⟩⟩

set_option maxRecDepth 100000 in
set_option maxHeartbeats 800000 in
theorem value_text (Bd R : Nat) (x : Int) (t : UInt8) (l : List UInt8) (w : World) (h : Rdr Bd R w (t :: l)) (ht : t.toNat = 2) (hll : l.length ≤ 1000000000000) :
    Calls Tryd.prog 41 #[.pointer (some ⟨R, 0, none⟩), .int .i64 x] w (ValPost Bd R w ((dnum l).bind fun x => if x.1 ≤ x.2.length then some (⟨2, 0, ⟨(x.2.take x.1).toArray⟩, .nil⟩, x.2.drop x.1) else none)) := by
  have HR := Lib.hid h
  have hlt := h.lt
  clear h
  have hbt : bv t = .int .u8 2 := by unfold bv; rw [ht]; rfl
  go_enter Tryd.func41, Tryd.ntmps41
  go_wp2_with fail
  refine (take1 Bd R t l _ (HR.out.same ((Below.refl _ _).alloc (Nat.le_refl _) _))).mono ?_
  rintro e w1 ⟨b, o, rfl, hc, hrd, hg1⟩
  rw [hbt] at hc
  have HR1 := Lib.hid hrd
  have HG1 := Lib.hid (upd_trans (upd_of ((Below.refl _ _).alloc (Nat.le_refl _) _)) hg1)
  have hz : w.heap.size + 1 ≤ w1.heap.size := by simpa using hg1.size
  have HA1 := Lib.hid hg1
  clear hrd hg1
  go_wp2_with fail
  refine (numeral_any Bd R l _ HR1.out).mono ?_
  intro e w2 hp
  rcases hp with ⟨y, r, hd, rfl, hrd, hg⟩ | ⟨hd, rfl, hg⟩
  · have hy := (dnum_some hd).2
    have hsh := dnum_short hd
    have HD := Lib.hid hd
    have HA2 := Lib.hid (upd_trans HA1.out hg)
    have HR2 := Lib.hid hrd
    have HG2 := Lib.hid (upd_trans HG1.out hg)
    clear hd hrd hg
    by_cases hyr : y ≤ r.length
    · go_wp2_with fail
      refine (take_ok Bd R y r _ HR2.out hyr).mono ?_
      rintro e w3 ⟨a', rfl, hb3, hrd3, hg3⟩
      obtain ⟨c0, c1, c2, c3, cf⟩ := box4_upd hlt (upd_trans HA2.out hg3)
      have HR3 := Lib.hid hrd3
      have HG3 := Lib.hid (upd_trans HG2.out hg3)
      have hcv := run_strB y hb3
      have hlen : (r.take y).length = y := by rw [List.length_take]; omega
      rw [hlen] at hcv
      have hsz : (ByteArray.mk (r.take y).toArray).size = y := by show (r.take y).toArray.size = y; simp; omega
      have HSZ := Lib.hid hsz
      generalize hst : ByteArray.mk (r.take y).toArray = st at *
      have HST := Lib.hid hst
      clear hst hsz hlen hb3 hrd3 hg3
      go_wp2
      refine bodyPost_ret (v := .agg #[.int .i64 2, .int .i64 0, .string st, .slice none 0 0]) (by simp [results, Tryd.results41, go_sem, c0, c1, c2, c3]) rfl ?_
      have hu := upd_set4 w3 w.heap.size (.int .i64 2) (.int .i64 0) (.string st) (.slice none 0 0)
      exact .inl ⟨⟨2, 0, st, .nil⟩, none, 0, r.drop y, by rw [HD.out, ← HST.out]; simp [hyr], rfl, HR3.out.upd hu hlt, upd_new HG3.out hu (Nat.le_refl _), i64_2, i64_0, by show st.size ≤ maxLen; rw [HSZ.out]; unfold maxLen; omega, Nat.zero_le _, .inl ⟨fun _ => rfl, rfl⟩⟩
    · go_wp2_with fail
      refine (take_bad Bd R y r _ HR2.out hyr hy).mono ?_
      rintro e w3 ⟨rfl, rfl⟩
      exact ⟨rfl, .inr ⟨by rw [HD.out]; simp [hyr], rfl, HG2.out⟩⟩
  · have HD := Lib.hid hd
    exact ⟨rfl, .inr ⟨by rw [HD.out]; rfl, rfl, upd_trans HG1.out hg⟩⟩

set_option maxRecDepth 100000 in
set_option maxHeartbeats 800000 in
theorem value_other (Bd R : Nat) (x : Int) (t : UInt8) (l : List UInt8) (w : World) (h : Rdr Bd R w (t :: l)) (h1 : t.toNat ≠ 1) (h2 : t.toNat ≠ 2) (h3 : t.toNat ≠ 3) :
    Calls Tryd.prog 41 #[.pointer (some ⟨R, 0, none⟩), .int .i64 x] w (ValPost Bd R w none) := by
  have HR := Lib.hid h
  have hlt := h.lt
  clear h
  have g1 : ((t.toNat : Int) == 1) = false := by simp; omega
  have g2 : ((t.toNat : Int) == 2) = false := by simp; omega
  have g3 : ((t.toNat : Int) == 3) = false := by simp; omega
  have htl := t.toNat_lt
  clear h1 h2 h3
  go_enter Tryd.func41, Tryd.ntmps41
  go_wp2_with fail
  refine (take1 Bd R t l _ (HR.out.same ((Below.refl _ _).alloc (Nat.le_refl _) _))).mono ?_
  rintro e w1 ⟨b, o, rfl, hc, hrd, hg1⟩
  unfold bv at hc
  have HG1 := Lib.hid (upd_trans (upd_of ((Below.refl _ _).alloc (Nat.le_refl _) _)) hg1)
  clear hrd hg1
  go_wp2_with fail
  exact ⟨rfl, .inr ⟨rfl, rfl, HG1.out⟩⟩

set_option maxRecDepth 100000 in
set_option maxHeartbeats 800000 in
theorem value_empty (Bd R : Nat) (x : Int) (w : World) (h : Rdr Bd R w []) :
    Calls Tryd.prog 41 #[.pointer (some ⟨R, 0, none⟩), .int .i64 x] w (ValPost Bd R w none) := by
  have HR := Lib.hid h
  clear h
  go_enter Tryd.func41, Tryd.ntmps41
  go_wp2_with fail
  refine (take_bad Bd R 1 [] _ (HR.out.same ((Below.refl _ _).alloc (Nat.le_refl _) _)) (by simp) (by omega)).mono ?_
  rintro e w1 ⟨rfl, rfl⟩
  exact ⟨rfl, .inr ⟨rfl, rfl, upd_of ((Below.refl _ _).alloc (Nat.le_refl _) _)⟩⟩
end Go.Proofs.YthcbnanohjkllaaDoor

namespace Go.Proofs.YthcbnanohjkllaaDoor
open Go.RowKit

theorem valInfo : (Tryd.prog.info? 40).map (fun i => (i.zero, i.size, i.bytes)) = some (some (.agg #[.int .i64 0, .int .i64 0, .string ByteArray.empty, .slice none 0 0]), 4, 56) := by kernel_rfl

/-- append(own, v), v a value that was put into a block of its own. -/
theorem wpList_appV {ops : Array Oper} {rest : List Oper} {o : Oper} {a : Act} {w : World} {Q : Exit → Act → World → Prop} (hgd : o.guard = none) (s x : Operand)
    (ho : o.op = .call { callee := .builtin .append, args := #[s, x], argTypes := #[38, 38] })
    (ok : Nat → Prop) (B : Nat) (v : Value) (f : VL) (k n : Int) (str : ByteArray) (kids : VL) (ka : Option Addr) (kc : Nat) (g : Nat) (hs : a.eval s = v) (hown : OwnV ok B w v f) (hx : a.eval x = .slice (some ⟨g, 0, none⟩) 1 1)
    (hg : w.heap[g]? = some (.cells #[.int .i64 k, .int .i64 n, .string str, .slice ka kids.len kc] 40)) (hk : I64 k) (hn : I64 n) (hst : str.size ≤ maxLen) (hr : RepQ ok w ka kc kids)
    (hlen : f.len + 1 ≤ 2000000000000) (hB : B ≤ w.heap.size) (hok : ∀ b, ok b → v.ownBlock ≠ some b ∧ b < w.heap.size)
    (h : ∀ v' w', OwnV (fun b => ok b ∧ v'.ownBlock ≠ some b) B w' v' (f.app (.cons k n str kids .nil)) → Grew w v w' v' → wpList Tryd.prog ops Q rest (a.put o.dst v') w') : wpList Tryd.prog ops Q (o :: rest) a w := by
  refine wpList_plain hgd fun K hK => ?_
  obtain ⟨cs, ho1, hc1⟩ := hown
  obtain ⟨i0, hi, hz0, hz1, hz2⟩ := info_parts valInfo
  have hnews : ∀ j u, [Value.int .i64 k, .int .i64 n, .string str, .slice ka kids.len kc][j]? = some u → w.cell? ((⟨g, 0, none⟩ : Addr).add j) = some u := by
    intro j u hu
    rw [addr_add, Nat.zero_add, cell_of_row w g j _ _ (0, 0) hg]
    simpa using hu
  obtain ⟨v', w', hrun, h2, h3, _, h5⟩ := run_append_own_at (P := Tryd.prog) (w := w) B 38 o.type 40 i0 _ 4 56 Tryd.underlying38 hi hz0 hz1 hz2 rfl (by decide) v f.len cs ho1 ⟨g, 0, none⟩ 1 1 _ (by rfl) hnews (by intro u hu; simp at hu; rcases hu with rfl | rfl | rfl | rfl <;> rfl) (by unfold maxLen; omega) (by omega) hB
  unfold Oper.wp execOp
  simp only [ho, resolve, invoke, builtin, Sem.run_bind, Sem.run_pure, Result.andThen_ok, List.map_toArray, List.map_cons, List.map_nil, hs, hx, hrun]
  have hG : Grew w v w' v' := ⟨h3, fun k' hk' => by
    rcases h5 with h5 | h5
    · exact .inl (h5 ▸ hk')
    · rw [h5] at hk'; cases hk'; exact .inr (Nat.le_refl _)⟩
  refine hK _ _ (h v' w' ⟨_, by rw [VL.len_app]; exact h2, ?_⟩ hG)
  have e1 : ∀ b, ok b → (ok b ∧ v'.ownBlock ≠ some b) := fun b hb => ⟨hb, hG.ne (hok b hb).1 (hok b hb).2⟩
  have e2 : ∀ b, ok b → w'.heap[b]? = w.heap[b]? := fun b hb => h3.block b (hok b hb).2 (Ne.symm (hok b hb).1)
  exact CellsP.snoc hk hn hst (hr.keep e1 e2) f cs (hc1.keep e1 e2)

theorem OwnV.upd {ok ok' : Nat → Prop} {B R : Nat} {w w2 : World} {v : Value} {f : VL} (h : OwnV ok B w v f) (hu : w.grownBy w2 (some R)) (hR : R < B) (h0 : ∀ k, ok k → ok' k) (h1 : ∀ k, ok k → k ≠ R ∧ k < w.heap.size) : OwnV ok' B w2 v f := by
  obtain ⟨cs, ho, hc⟩ := h
  refine ⟨cs, World.ownsRow.kept ho hu ?_, hc.keep h0 fun k hk => hu.block k (h1 k hk).2 (by intro e; injection e with e; exact (h1 k hk).1 e)⟩
  cases hv : v.ownBlock with
  | none => exact .inl rfl
  | some k =>
    have := (World.ownsRow.lt ho k hv).1
    exact .inr (by intro e; injection e with e; omega)
theorem OwnV.imp {ok ok' : Nat → Prop} {B : Nat} {w : World} {v : Value} {f : VL} (h : OwnV ok B w v f) (h0 : ∀ k, ok k → ok' k) : OwnV ok' B w v f := by
  obtain ⟨cs, ho, hc⟩ := h
  exact ⟨cs, ho, hc.keep h0 fun _ _ => rfl⟩
theorem OwnV.row {ok : Nat → Prop} {B : Nat} {w : World} {v : Value} {f : VL} (h : OwnV ok B w v f) : ∀ k, v.ownBlock = some k → B ≤ k ∧ k < w.heap.size := by
  obtain ⟨cs, ho, hc⟩ := h
  exact World.ownsRow.lt ho

/-- What reading the elements of a list comes to. -/
def ListPost (Bd R : Nat) (w : World) (res : Option (VL × List UInt8)) (e : Ending) (w' : World) : Prop :=
  (∃ f a cap r, res = some (f, r) ∧ e = .returned (.slice a f.len cap) ∧ Rdr Bd R w' r ∧ w.grownBy w' (some R) ∧ RepQ (fun b => w.heap.size ≤ b ∧ b < w'.heap.size) w' a cap f) ∨
  (res = none ∧ e = .panicked errCode ∧ w.grownBy w' (some R))
def ValueSaid (d : Nat) : Prop := ∀ (Bd R : Nat) (x : Int) (l : List UInt8) (w : World), Hid (x = 16 - d) → Rdr Bd R w l → l.length ≤ 1000000000000 →
    Calls Tryd.prog 41 #[.pointer (some ⟨R, 0, none⟩), .int .i64 x] w (ValPost Bd R w (dval d l))

set_option maxRecDepth 100000 in
set_option maxHeartbeats 800000 in
theorem list_deep (Bd R : Nat) (l : List UInt8) (w : World) (h : Rdr Bd R w l) :
    Calls Tryd.prog 63 #[.pointer (some ⟨R, 0, none⟩), .int .i64 17] w (ListPost Bd R w none) := by
  go_enter Tryd.func63, Tryd.ntmps63
  go_wp2_with fail
  exact ⟨rfl, .inr ⟨rfl, rfl, upd_of (Below.refl _ _)⟩⟩

set_option maxRecDepth 100000 in
set_option maxHeartbeats 800000 in
theorem rlist_any (d : Nat) (ih : ValueSaid d) (Bd R : Nat) (x : Int) (l : List UInt8) (w : World) (HX : Hid (x = 16 - d)) (hx : x ≤ 16) (h : Rdr Bd R w l) (hll : l.length ≤ 1000000000000) :
    Calls Tryd.prog 63 #[.pointer (some ⟨R, 0, none⟩), .int .i64 x] w (ListPost Bd R w ((dnum l).bind fun x => dlist (dval d) x.1 x.2)) := by
  have HR := Lib.hid h
  have hlt := h.lt
  clear h
  have hxd : decide ((16 : Int) < x) = false := by simp; omega
  go_enter Tryd.func63, Tryd.ntmps63
  go_wp2_with fail
  refine (numeral_any Bd R l _ HR.out).mono ?_
  intro e w1 hp
  rcases hp with ⟨y, r, hd, rfl, hrd, hg⟩ | ⟨hd, rfl, hg⟩
  · have hy := (dnum_some hd).2
    have hsh := dnum_short hd
    obtain ⟨res, HRes⟩ : ∃ res, Hid (res = (dnum l).bind fun x => dlist (dval d) x.1 x.2) := ⟨_, Lib.hid rfl⟩
    have HD : Hid (((dlist (dval d) y r).map fun z => (VL.nil.app z.1, z.2)) = res) := by
      show _ = _; rw [HRes.out, hd]; simp only [Option.bind_some, VL.app]; cases dlist (dval d) y r <;> rfl
    have HRd := Lib.hid hrd
    have HG := Lib.hid hg
    clear hd hrd hg
    go_wp2_with fail
    go_loopw [5, 4] (fun c v wr => ∃ (cnt : Nat) (f : VL) (l' : List UInt8), c = .int .u64 cnt ∧ cnt ≤ 18446744073709551615 ∧ Hid (OwnV (fun b => (w.heap.size ≤ b ∧ b < wr.heap.size) ∧ v.ownBlock ≠ some b) w.heap.size wr v f) ∧ Hid (Rdr Bd R wr l') ∧ f.len + l'.length ≤ 1000000000000 ∧ Hid (((dlist (dval d) cnt l').map fun z => (f.app z.1, z.2)) = res) ∧ Hid (w.grownBy wr (some R))) (fun c _ _ => (intOf c).toNat)
    case atStart => exact ⟨y, .nil, r, rfl, hy, Lib.hid (OwnV.nil _ _ _), HRd, by simp only [VL.len]; omega, HD, HG⟩
    case round =>
      obtain ⟨cnt, f, l', rfl, hcnt, HO, HRd', hfl, HD', HG'⟩ := hrel
      have hsz : w.heap.size ≤ wr.heap.size := HG'.out.size
      by_cases hc0 : cnt = 0
      · subst hc0
        go_wp2_with fail
        obtain ⟨a, cap, hv, hrep⟩ := HO.out.rep (ok' := fun b => w.heap.size ≤ b ∧ b < wr.heap.size) (fun b hb => hb.1) (fun b h1 h2 => ⟨h1, h2⟩)
        go_ret
        refine .inl ⟨f, a, cap, l', ?_, by rw [← hv]; rfl, HRd'.out, HG'.out, hrep⟩
        rw [← HRes.out, ← HD'.out]
        simp only [dlist, Option.map_some, VL.app_nil]
      · obtain ⟨c, rfl⟩ : ∃ c, cnt = c + 1 := ⟨cnt - 1, by omega⟩
        have hcp : (0 : Int) < ((c + 1 : Nat) : Int) := by omega
        go_wp2_with fail
        refine (ih Bd R x l' _ HX HRd'.out (by omega)).mono ?_
        intro e w2 hp
        rcases hp with ⟨v, a, cap, r', hd, rfl, hrd, hg, hk, hn, hs, hrep⟩ | ⟨hd, rfl, hg⟩
        · have hsv := dval_short d l' v r' hd
          have hDv := Lib.hid hd
          have HRd2 := Lib.hid hrd
          have hsz2 := hg.size
          have HG2 := Lib.hid hg
          have HREP := Lib.hid hrep
          have HK := Lib.hid (And.intro hk (And.intro hn hs))
          clear hd hrd hg hrep hk hn hs
          have hrow := HO.out.row
          have HO1 : OwnV (fun b => (w.heap.size ≤ b ∧ b < w2.heap.size) ∧ u4.ownBlock ≠ some b) w.heap.size (w2.alloc (.cells #[.int .i64 v.k, .int .i64 v.n, .string v.s, .slice a v.kids.len cap] 40)) u4 f :=
            (HO.out.upd HG2.out hlt (ok' := fun b => (w.heap.size ≤ b ∧ b < w2.heap.size) ∧ u4.ownBlock ≠ some b) (fun k hk => ⟨⟨hk.1.1, by omega⟩, hk.2⟩) (fun k hk => ⟨by have := hk.1.1; omega, hk.1.2⟩)).upd (upd_of ((Below.refl _ _).alloc (Nat.le_refl _) _)) hlt (fun k hk => hk) (fun k hk => ⟨by have := hk.1.1; omega, hk.1.2⟩)
          have HQ1 : RepQ (fun b => (w.heap.size ≤ b ∧ b < w2.heap.size) ∧ u4.ownBlock ≠ some b) (w2.alloc (.cells #[.int .i64 v.k, .int .i64 v.n, .string v.s, .slice a v.kids.len cap] 40)) a cap v.kids :=
            HREP.out.keep (fun b hb => ⟨⟨by omega, hb.2⟩, fun e => by have := (hrow b e).2; omega⟩) (fun b hb => ((Below.refl _ _).alloc (Nat.le_refl _) _).block b hb.2)
          have H1 := Lib.hid HO1
          have H2 := Lib.hid HQ1
          clear HO1 HQ1 hrow
          go_wp2_with (at_builtin; refine wpList_appV rfl _ _ rfl _ w.heap.size _ f v.k v.n v.s v.kids a cap w2.heap.size rfl H1.out rfl ?c1 HK.out.1 HK.out.2.1 HK.out.2.2 H2.out ?c2 ?c3 ?c4 ?_)
          case c1 => exact heap_alloc_new w2 _
          case c2 => omega
          case c3 => simp; omega
          case c4 => exact fun b hb => ⟨hb.2, by simp; omega⟩
          intro v3 w3 hown3 hg3
          have hz3 := hg3.size
          simp at hz3
          have H3 := Lib.hid (hown3.imp (ok' := fun b => (w.heap.size ≤ b ∧ b < w3.heap.size) ∧ v3.ownBlock ≠ some b) fun b hb => ⟨⟨hb.1.1.1, by omega⟩, hb.2⟩)
          have hbw : Below w.heap.size w2 w3 := ((Below.refl _ _).alloc (by omega) _).trans (hg3.below (fun k hk => (H1.out.row k hk).1) (by simp; omega))
          have H4 := Lib.hid (upd_below2 (upd_trans HG'.out HG2.out) hbw)
          have H5 := Lib.hid (HRd2.out.below hlt hbw)
          clear hown3 hg3 hbw
          go_wp2_with fail
          go_roundw
          case rel =>
            refine ⟨c, f.app (.cons v.k v.n v.s v.kids .nil), r', by go_num, by omega, H3, H5, ?_, ?_, H4⟩
            · rw [VL.len_app]; simp only [VL.len]; omega
            · show _ = _
              rw [← HD'.out]
              simp only [dlist, hDv.out]
              cases dlist (dval d) c r' with
              | none => rfl
              | some z => simp only [Option.map_some, VL.app_assoc, VL.app]
          case measure => simp [intOf]
        · exact ⟨rfl, .inr ⟨by rw [← HRes.out, ← HD'.out]; simp only [dlist, hd]; rfl, rfl, upd_trans HG'.out hg⟩⟩
  · have HD := Lib.hid hd
    exact ⟨rfl, .inr ⟨by rw [HD.out]; rfl, rfl, hg⟩⟩

set_option maxRecDepth 100000 in
set_option maxHeartbeats 800000 in
theorem value_list (Bd R : Nat) (x : Int) (hx0 : -1000 ≤ x) (hx1 : x ≤ 1000) (t : UInt8) (l : List UInt8) (w : World) (h : Rdr Bd R w (t :: l)) (ht : t.toNat = 3) (res : Option (VL × List UInt8))
    (hl : ∀ w', Rdr Bd R w' l → Calls Tryd.prog 63 #[.pointer (some ⟨R, 0, none⟩), .int .i64 (x + 1)] w' (ListPost Bd R w' res)) :
    Calls Tryd.prog 41 #[.pointer (some ⟨R, 0, none⟩), .int .i64 x] w (ValPost Bd R w (res.map fun y => (⟨3, 0, ByteArray.empty, y.1⟩, y.2))) := by
  have HR := Lib.hid h
  have HL := Lib.hid hl
  have hlt := h.lt
  clear h hl
  have hbt : bv t = .int .u8 3 := by unfold bv; rw [ht]; rfl
  go_enter Tryd.func41, Tryd.ntmps41
  go_wp2_with fail
  refine (take1 Bd R t l _ (HR.out.same ((Below.refl _ _).alloc (Nat.le_refl _) _))).mono ?_
  rintro e w1 ⟨b, o, rfl, hc, hrd, hg1⟩
  rw [hbt] at hc
  have HR1 := Lib.hid hrd
  have HG1 := Lib.hid (upd_trans (upd_of ((Below.refl _ _).alloc (Nat.le_refl _) _)) hg1)
  have hz : w.heap.size + 1 ≤ w1.heap.size := by simpa using hg1.size
  have HA1 := Lib.hid hg1
  clear hrd hg1
  go_wp2_with fail
  refine (HL.out _ HR1.out).mono ?_
  intro e w2 hp
  rcases hp with ⟨f, a, cap, r, hd, rfl, hrd, hg, hrep⟩ | ⟨hd, rfl, hg⟩
  · have HD := Lib.hid hd
    obtain ⟨c0, c1, c2, c3, cf⟩ := box4_upd hlt (upd_trans HA1.out hg)
    have HR2 := Lib.hid hrd
    have HG2 := Lib.hid (upd_trans HG1.out hg)
    have HQ := Lib.hid hrep
    clear hd hrd hg hrep
    go_wp2_with fail
    refine bodyPost_ret (v := .agg #[.int .i64 3, .int .i64 0, .string ByteArray.empty, .slice a f.len cap]) (by simp [results, Tryd.results41, go_sem, c0, c1, c2, c3]; rfl) rfl ?_
    have hu := upd_set4 w2 w.heap.size (.int .i64 3) (.int .i64 0) (.string ByteArray.empty) (.slice a f.len cap)
    refine .inl ⟨⟨3, 0, ByteArray.empty, f⟩, a, cap, r, by rw [HD.out]; rfl, rfl, HR2.out.upd hu hlt, upd_new HG2.out hu (Nat.le_refl _), i64_3, i64_0, Nat.zero_le _, ?_⟩
    exact HQ.out.keep (fun k hk => ⟨Nat.le_trans (show w.heap.size ≤ w1.heap.size by omega) hk.1, Nat.lt_of_lt_of_le hk.2 hu.size⟩) fun k hk => hu.block k hk.2 (by intro e; injection e with e; omega)
  · have HD := Lib.hid hd
    exact ⟨rfl, .inr ⟨by rw [HD.out]; rfl, rfl, upd_trans HG1.out hg⟩⟩

/-- The contract of value. -/
theorem value_any (d : Nat) (hd : d ≤ 16) : ValueSaid d := by
  induction d with
  | zero =>
    intro Bd R x l w HX h hl
    have hx : x = 16 := by have := HX.out; omega
    cases l with
    | nil => exact value_empty Bd R x w h
    | cons t l =>
      by_cases h1 : t.toNat = 1
      · simp only [dval]; rw [if_pos h1]; exact value_int Bd R x t l w h h1
      by_cases h2 : t.toNat = 2
      · simp only [dval]; rw [if_neg h1, if_pos h2]; exact value_text Bd R x t l w h h2 (by simp at hl; omega)
      simp only [dval]; rw [if_neg h1, if_neg h2]
      by_cases h3 : t.toNat = 3
      · refine (value_list Bd R x (by omega) (by omega) t l w h h3 none fun w' hr => ?_)
        rw [hx]
        exact list_deep Bd R l w' hr
      · exact value_other Bd R x t l w h h1 h2 h3
  | succ d ih =>
    intro Bd R x l w HX h hl
    have hx : x = 16 - (d + 1 : Nat) := HX.out
    cases l with
    | nil => exact value_empty Bd R x w h
    | cons t l =>
      by_cases h1 : t.toNat = 1
      · simp only [dval]; rw [if_pos h1]; exact value_int Bd R x t l w h h1
      by_cases h2 : t.toNat = 2
      · simp only [dval]; rw [if_neg h1, if_pos h2]; exact value_text Bd R x t l w h h2 (by simp at hl; omega)
      simp only [dval]; rw [if_neg h1, if_neg h2]
      by_cases h3 : t.toNat = 3
      · rw [if_pos h3]
        have := value_list Bd R x (by omega) (by omega) t l w h h3 _ fun w' hr => rlist_any d (ih (by omega)) Bd R (x + 1) l w' (by show _ = _; omega) (by omega) hr (by simp at hl; omega)
        cases hn : dnum l with
        | none => rw [hn] at this; exact this
        | some y => rw [hn] at this; exact this
      · rw [if_neg h3]
        exact value_other Bd R x t l w h h1 h2 h3
end Go.Proofs.YthcbnanohjkllaaDoor

namespace Go.Proofs.YthcbnanohjkllaaDoor
open Go.RowKit

/-- The deferred function, where the reader has panicked. -/
theorem catch_panicking (p q : Nat) (x0 x1 x2 x3 y : Value) (u : TypeId) (pv : Value) (older : List PanicEntry) (w : World) (h0 : w.cell? ⟨p, 0, none⟩ = some x0) (h1 : w.cell? ⟨p, 1, none⟩ = some x1) (h2 : w.cell? ⟨p, 2, none⟩ = some x2) (h3 : w.cell? ⟨p, 3, none⟩ = some x3) (h4 : w.cell? ⟨q, 0, none⟩ = some y) (hf : ∀ j, w.frozen? ⟨p, j, none⟩ = false) (hg : w.frozen? ⟨q, 0, none⟩ = false) (hpq : ¬ p = q) :
    CallsD Tryd.prog 40 #[.pointer (some ⟨p, 0, none⟩), .pointer (some ⟨q, 0, none⟩)] (.panicking ({ v := .iface u pv, recovered := false } :: older)) w fun e u' w' =>
      e = .returned (.tuple #[]) ∧ u' = .panicking ({ v := .iface u pv, recovered := true } :: older) ∧
      w' = ((((w.setCell ⟨p, 0, none⟩ (.int .i64 0)).setCell ⟨p, 1, none⟩ (.int .i64 0)).setCell ⟨p, 2, none⟩ (.string ByteArray.empty)).setCell ⟨p, 3, none⟩ (.slice none 0 0)).setCell ⟨q, 0, none⟩ (.int .i64 10) := by
  refine callsD_of_wpS Tryd.func40 rfl fun c₀ cs hu => ?_
  apply wpS_seq
  apply wpS_region
  simp [wpOpsS, go_sem, recoverD, hu, Tryd.ntmps40, Exit.thenS]
  refine wpS_cond (t := true) (by simp [Act.eval, Array.replicate]) ?_
  simp only [if_true]
  apply wpS_region
  simp [wpOpsS, go_sem, h0, h1, h2, h3, h4, hf, hg, bodyPostS, results, Tryd.results40]
  rfl

theorem catch_idle (p q : Addr) (w : World) :
    CallsD Tryd.prog 40 #[.pointer (some p), .pointer (some q)] .returning w fun e u' w' => e = .returned (.tuple #[]) ∧ u' = .returning ∧ w' = w := by
  refine callsD_of_wpS Tryd.func40 rfl fun c₀ cs hu => ?_
  apply wpS_seq
  apply wpS_region
  simp [wpOpsS, go_sem, recoverD, hu, Tryd.ntmps40, Exit.thenS]
  refine wpS_cond (t := false) (by simp [Act.eval, Array.replicate]) ?_
  simp only [Bool.false_eq_true, if_false]
  refine wpS_of_wp (wp_skip ?_)
  cases c₀
  simp_all [bodyPostS, results, Tryd.results40]

/-- What Decode answers: the value, or nothing. -/
def dec (l : List UInt8) : Option Val := match dval 16 l with
  | some (v, []) => some v
  | _ => none

/-- Four cells are written. -/
theorem set4_cells {w : World} {N q : Nat} {x0 x1 x2 x3 y : Value} (v0 v1 v2 v3 : Value) (hq : ¬ N = q) (c0 : w.cell? ⟨N, 0, none⟩ = some x0) (c1 : w.cell? ⟨N, 1, none⟩ = some x1) (c2 : w.cell? ⟨N, 2, none⟩ = some x2) (c3 : w.cell? ⟨N, 3, none⟩ = some x3) (c4 : w.cell? ⟨q, 0, none⟩ = some y) :
    ((((w.setCell ⟨N, 0, none⟩ v0).setCell ⟨N, 1, none⟩ v1).setCell ⟨N, 2, none⟩ v2).setCell ⟨N, 3, none⟩ v3).cell? ⟨N, 0, none⟩ = some v0 ∧ ((((w.setCell ⟨N, 0, none⟩ v0).setCell ⟨N, 1, none⟩ v1).setCell ⟨N, 2, none⟩ v2).setCell ⟨N, 3, none⟩ v3).cell? ⟨N, 1, none⟩ = some v1 ∧ ((((w.setCell ⟨N, 0, none⟩ v0).setCell ⟨N, 1, none⟩ v1).setCell ⟨N, 2, none⟩ v2).setCell ⟨N, 3, none⟩ v3).cell? ⟨N, 2, none⟩ = some v2 ∧ ((((w.setCell ⟨N, 0, none⟩ v0).setCell ⟨N, 1, none⟩ v1).setCell ⟨N, 2, none⟩ v2).setCell ⟨N, 3, none⟩ v3).cell? ⟨N, 3, none⟩ = some v3 ∧ ((((w.setCell ⟨N, 0, none⟩ v0).setCell ⟨N, 1, none⟩ v1).setCell ⟨N, 2, none⟩ v2).setCell ⟨N, 3, none⟩ v3).cell? ⟨q, 0, none⟩ = some y := by
  refine ⟨?_, ?_, ?_, ?_, ?_⟩ <;> simp [go_sem, c0, c1, c2, c3, c4, hq, Ne.symm hq]
theorem set_err {w : World} {N q : Nat} {x0 x1 x2 x3 y : Value} (v : Value) (hq : ¬ N = q) (h : w.cell? ⟨N, 0, none⟩ = some x0 ∧ w.cell? ⟨N, 1, none⟩ = some x1 ∧ w.cell? ⟨N, 2, none⟩ = some x2 ∧ w.cell? ⟨N, 3, none⟩ = some x3 ∧ w.cell? ⟨q, 0, none⟩ = some y) :
    (w.setCell ⟨q, 0, none⟩ v).cell? ⟨N, 0, none⟩ = some x0 ∧ (w.setCell ⟨q, 0, none⟩ v).cell? ⟨N, 1, none⟩ = some x1 ∧ (w.setCell ⟨q, 0, none⟩ v).cell? ⟨N, 2, none⟩ = some x2 ∧ (w.setCell ⟨q, 0, none⟩ v).cell? ⟨N, 3, none⟩ = some x3 ∧ (w.setCell ⟨q, 0, none⟩ v).cell? ⟨q, 0, none⟩ = some v := by
  obtain ⟨c0, c1, c2, c3, c4⟩ := h
  refine ⟨?_, ?_, ?_, ?_, ?_⟩ <;> simp [go_sem, c0, c1, c2, c3, c4, hq, Ne.symm hq]
theorem below_err {w w1 : World} {B q : Nat} (h : Below B w w1) (hq : B ≤ q) (v : Value) : Below B w (w1.setCell ⟨q, 0, none⟩ v) := h.setCell hq v
theorem below_set4 {w w1 : World} {B N : Nat} (h : Below B w w1) (hN : B ≤ N) (v0 v1 v2 v3 : Value) : Below B w ((((w1.setCell ⟨N, 0, none⟩ v0).setCell ⟨N, 1, none⟩ v1).setCell ⟨N, 2, none⟩ v2).setCell ⟨N, 3, none⟩ v3) := (((h.setCell hN v0).setCell hN v1).setCell hN v2).setCell hN v3

/-- What Decode leaves. -/
def DecPost (w : World) (res : Option Val) (e : Ending) (w' : World) : Prop :=
  (∃ v a cap, res = some v ∧ e = .returned (.tuple #[.agg #[.int .i64 v.k, .int .i64 v.n, .string v.s, .slice a v.kids.len cap], .int .i64 0]) ∧ I64 v.k ∧ I64 v.n ∧ v.s.size ≤ maxLen ∧ RepQ (fun b => w.heap.size ≤ b ∧ b < w'.heap.size) w' a cap v.kids ∧ Below w.heap.size w w') ∨
  (res = none ∧ e = .returned (.tuple #[.agg #[.int .i64 0, .int .i64 0, .string ByteArray.empty, .slice none 0 0], .int .i64 10]) ∧ Below w.heap.size w w')

/-- The three blocks that Decode makes first, in a later world in which the reader's alone has turned. -/
theorem dec_boxes {w w1 : World} {x0 x1 x2 x3 y z : Value} {S T U : TypeId} (h : (((w.alloc (.cells #[x0, x1, x2, x3] S)).alloc (.cells #[y] T)).alloc (.cells #[z] U)).grownBy w1 (some (w.heap.size + 1 + 1))) :
    (w1.cell? ⟨w.heap.size, 0, none⟩ = some x0 ∧ w1.cell? ⟨w.heap.size, 1, none⟩ = some x1 ∧ w1.cell? ⟨w.heap.size, 2, none⟩ = some x2 ∧ w1.cell? ⟨w.heap.size, 3, none⟩ = some x3) ∧ w1.cell? ⟨w.heap.size + 1, 0, none⟩ = some y ∧ (∀ j, w1.frozen? ⟨w.heap.size, j, none⟩ = false) ∧ w1.frozen? ⟨w.heap.size + 1, 0, none⟩ = false ∧ Below w.heap.size w w1 := by
  have hs1 : (w.alloc (.cells #[x0, x1, x2, x3] S)).heap.size = w.heap.size + 1 := by simp
  have hs2 : ((w.alloc (.cells #[x0, x1, x2, x3] S)).alloc (.cells #[y] T)).heap.size = w.heap.size + 1 + 1 := by simp
  have hs3 : (((w.alloc (.cells #[x0, x1, x2, x3] S)).alloc (.cells #[y] T)).alloc (.cells #[z] U)).heap.size = w.heap.size + 1 + 1 + 1 := by simp
  have hA : Below (w.heap.size + 1) (w.alloc (.cells #[x0, x1, x2, x3] S)) w1 :=
    (((Below.refl _ _).alloc (by omega) _).alloc (by omega) _).trans ((Below.refl _ _).grown h (by omega) fun k hk => by injection hk with hk; omega)
  have hBB : Below (w.heap.size + 1 + 1) ((w.alloc (.cells #[x0, x1, x2, x3] S)).alloc (.cells #[y] T)) w1 :=
    ((Below.refl _ _).alloc (by omega) _).trans ((Below.refl _ _).grown h (by omega) fun k hk => by injection hk with hk; omega)
  have hnew : ∀ (X : World), (X.alloc (.cells #[y] T)).cell? ⟨X.heap.size, 0, none⟩ = some y ∧ (X.alloc (.cells #[y] T)).frozen? ⟨X.heap.size, 0, none⟩ = false := fun X => ⟨by simp, by simp⟩
  have h1 := hnew (w.alloc (.cells #[x0, x1, x2, x3] S))
  rw [hs1] at h1
  refine ⟨box4 hA, ?_, fun j => ?_, ?_, below_start hA⟩
  · rw [hBB.cell (by simp)]; exact h1.1
  · rw [hA.frozen (by simp)]; simp
  · rw [hBB.frozen (by simp)]; exact h1.2

set_option maxRecDepth 100000 in
set_option maxHeartbeats 800000 in
theorem decode_any (B : Nat) (a : Option Addr) (cap : Nat) (l : List UInt8) (w : World) (hr : RdB B w a l) (hB : B ≤ w.heap.size) (hcap : l.length ≤ cap) (hcm : cap ≤ maxLen) (hll : l.length ≤ 1000000000000) :
    Calls Tryd.prog 23 #[.slice a l.length cap] w (DecPost w (dec l)) := by
  have hmf : ∀ (fn : Fn) (first cap : Array Value) (w : World), (Instr.makeFunc fn first cap).run Tryd.prog w = .ok (.func fn first cap) w := fun _ _ _ _ => rfl
  have HRd := Lib.hid hr
  have HCP := Lib.hid (And.intro hcap hcm)
  clear hr hcap hcm
  go_enter_defers Tryd.func23, Tryd.ntmps23
  go_wp2_with fail
  refine (value_any 16 (Nat.le_refl _) B (w.heap.size + 1 + 1) 0 l _ (by show _ = _; omega) ⟨by omega, World.frozen?_alloc_at _ _ _ _ (by simp), a, cap, (World.cell?_alloc_at _ _ _ _ (by simp)).trans rfl, HCP.out.1, HCP.out.2, HRd.out.below ((((Below.refl _ _).alloc hB _).alloc (le_alloc hB _) _).alloc (le_alloc (le_alloc hB _) _) _)⟩ hll).mono ?_
  intro e w1 hp
  rcases hp with ⟨v, a1, cap1, r, hd, rfl, hrd, hg, hk, hn, hs, hq⟩ | ⟨hd, rfl, hg⟩
  · obtain ⟨⟨c0, c1, c2, c3⟩, c4, cf, cg, hb⟩ := dec_boxes hg
    have HD := Lib.hid hd
    have HK := Lib.hid (And.intro hk (And.intro hn hs))
    have HQ := Lib.hid (show RepQ (fun b => w.heap.size + 1 + 1 + 1 ≤ b ∧ b < w1.heap.size) w1 a1 cap1 v.kids from hq.keep (fun k hk => ⟨by have := hk.1; simp at this; omega, hk.2⟩) fun _ _ => rfl)
    have HB := Lib.hid hb
    obtain ⟨r0, r1, ra, rc, r2, r3, r4, r5⟩ := hrd
    have HG := Lib.hid hg
    have HC := Lib.hid (And.intro c0 (And.intro c1 (And.intro c2 (And.intro c3 (And.intro c4 (And.intro cf cg))))))
    clear hd hk hn hs hq hb r5 hg r3 r4
    cases r with
    | nil =>
      have HD2 : Hid (dec l = some v) := by show _ = _; unfold dec; rw [HD.out]
      go_wp2
      refine leaves_cons (f := 40) (args := #[.pointer (some ⟨w.heap.size, 0, none⟩), .pointer (some ⟨w.heap.size + 1, 0, none⟩)]) (by simp) (by simp [go_sem]) ?_
      refine (catch_idle ⟨w.heap.size, 0, none⟩ ⟨w.heap.size + 1, 0, none⟩ _).mono ?_
      rintro e u' w'' ⟨rfl, rfl, rfl⟩
      obtain ⟨c0, c1, c2, c3, c4, cf, cg⟩ := HC.out
      have hA := set4_cells (.int .i64 v.k) (.int .i64 v.n) (.string v.s) (.slice a1 v.kids.len cap1) (show ¬ w.heap.size = w.heap.size + 1 by omega) c0 c1 c2 c3 c4
      have hA2 := set4_cells (.int .i64 v.k) (.int .i64 v.n) (.string v.s) (.slice a1 v.kids.len cap1) (show ¬ w.heap.size = w.heap.size + 1 by omega) hA.1 hA.2.1 hA.2.2.1 hA.2.2.2.1 hA.2.2.2.2
      obtain ⟨d0, d1, d2, d3, d4⟩ := set_err (.int .i64 0) (show ¬ w.heap.size = w.heap.size + 1 by omega) hA2
      have hb3 := below_err (below_set4 (below_set4 HB.out (Nat.le_refl _) (.int .i64 v.k) (.int .i64 v.n) (.string v.s) (.slice a1 v.kids.len cap1)) (Nat.le_refl _) (.int .i64 v.k) (.int .i64 v.n) (.string v.s) (.slice a1 v.kids.len cap1)) (show w.heap.size ≤ w.heap.size + 1 by omega) (.int .i64 0)
      have hb4 := below_err (below_set4 (below_set4 (Below.refl (w.heap.size) w1) (Nat.le_refl _) (.int .i64 v.k) (.int .i64 v.n) (.string v.s) (.slice a1 v.kids.len cap1)) (Nat.le_refl _) (.int .i64 v.k) (.int .i64 v.n) (.string v.s) (.slice a1 v.kids.len cap1)) (show w.heap.size ≤ w.heap.size + 1 by omega) (.int .i64 0)
      have hkeep : ∀ k, ¬ k = w.heap.size → ¬ k = w.heap.size + 1 → (((((((((w1.setCell ⟨w.heap.size, 0, none⟩ (.int .i64 v.k)).setCell ⟨w.heap.size, 1, none⟩ (.int .i64 v.n)).setCell ⟨w.heap.size, 2, none⟩ (.string v.s)).setCell ⟨w.heap.size, 3, none⟩ (.slice a1 v.kids.len cap1)).setCell ⟨w.heap.size, 0, none⟩ (.int .i64 v.k)).setCell ⟨w.heap.size, 1, none⟩ (.int .i64 v.n)).setCell ⟨w.heap.size, 2, none⟩ (.string v.s)).setCell ⟨w.heap.size, 3, none⟩ (.slice a1 v.kids.len cap1)).setCell ⟨w.heap.size + 1, 0, none⟩ (.int .i64 0)).heap[k]? = w1.heap[k]? := by
        intro k hk1 hk2
        have g1 : ∀ (X : World) (j : Nat) (v : Value), (X.setCell ⟨w.heap.size, j, none⟩ v).heap[k]? = X.heap[k]? := fun X j v => Below.heap_setCell X ⟨w.heap.size, j, none⟩ v k hk1
        have g2 : ∀ (X : World) (j : Nat) (v : Value), (X.setCell ⟨w.heap.size + 1, j, none⟩ v).heap[k]? = X.heap[k]? := fun X j v => Below.heap_setCell X ⟨w.heap.size + 1, j, none⟩ v k hk2
        rw [g2, g1, g1, g1, g1, g1, g1, g1, g1]
      have hsz : (((((((((w1.setCell ⟨w.heap.size, 0, none⟩ (.int .i64 v.k)).setCell ⟨w.heap.size, 1, none⟩ (.int .i64 v.n)).setCell ⟨w.heap.size, 2, none⟩ (.string v.s)).setCell ⟨w.heap.size, 3, none⟩ (.slice a1 v.kids.len cap1)).setCell ⟨w.heap.size, 0, none⟩ (.int .i64 v.k)).setCell ⟨w.heap.size, 1, none⟩ (.int .i64 v.n)).setCell ⟨w.heap.size, 2, none⟩ (.string v.s)).setCell ⟨w.heap.size, 3, none⟩ (.slice a1 v.kids.len cap1)).setCell ⟨w.heap.size + 1, 0, none⟩ (.int .i64 0)).heap.size = w1.heap.size := by simp
      clear hA hA2 c0 c1 c2 c3 c4 cf cg hb4
      generalize (((((((((w1.setCell ⟨w.heap.size, 0, none⟩ (.int .i64 v.k)).setCell ⟨w.heap.size, 1, none⟩ (.int .i64 v.n)).setCell ⟨w.heap.size, 2, none⟩ (.string v.s)).setCell ⟨w.heap.size, 3, none⟩ (.slice a1 v.kids.len cap1)).setCell ⟨w.heap.size, 0, none⟩ (.int .i64 v.k)).setCell ⟨w.heap.size, 1, none⟩ (.int .i64 v.n)).setCell ⟨w.heap.size, 2, none⟩ (.string v.s)).setCell ⟨w.heap.size, 3, none⟩ (.slice a1 v.kids.len cap1)).setCell ⟨w.heap.size + 1, 0, none⟩ (.int .i64 0)) = X at *
      simp [Leaves, settle, results, Tryd.results23, go_sem, d0, d1, d2, d3, d4]
      refine .inl ⟨v, a1, cap1, HD2.out, rfl, HK.out.1, HK.out.2.1, HK.out.2.2, ?_, hb3⟩
      exact HQ.out.keep (fun k hk => ⟨by omega, by omega⟩) fun k hk => hkeep k (by omega) (by omega)
    | cons t r' =>
      have HD2 : Hid (dec l = none) := by show _ = _; unfold dec; rw [HD.out]
      have hpos : (0 : Int) < ((t :: r').length : Int) := by simp only [List.length_cons]; omega
      go_wp2
      obtain ⟨c0, c1, c2, c3, c4, cf, cg⟩ := HC.out
      obtain ⟨d0, d1, d2, d3, d4⟩ := set4_cells (.int .i64 v.k) (.int .i64 v.n) (.string v.s) (.slice a1 v.kids.len cap1) (show ¬ w.heap.size = w.heap.size + 1 by omega) c0 c1 c2 c3 c4
      have hb3 := below_set4 HB.out (Nat.le_refl _) (.int .i64 v.k) (.int .i64 v.n) (.string v.s) (.slice a1 v.kids.len cap1)
      have df : ∀ j, ((((w1.setCell ⟨w.heap.size, 0, none⟩ (.int .i64 v.k)).setCell ⟨w.heap.size, 1, none⟩ (.int .i64 v.n)).setCell ⟨w.heap.size, 2, none⟩ (.string v.s)).setCell ⟨w.heap.size, 3, none⟩ (.slice a1 v.kids.len cap1)).frozen? ⟨w.heap.size, j, none⟩ = false := fun j => by simpa using cf j
      have dg : ((((w1.setCell ⟨w.heap.size, 0, none⟩ (.int .i64 v.k)).setCell ⟨w.heap.size, 1, none⟩ (.int .i64 v.n)).setCell ⟨w.heap.size, 2, none⟩ (.string v.s)).setCell ⟨w.heap.size, 3, none⟩ (.slice a1 v.kids.len cap1)).frozen? ⟨w.heap.size + 1, 0, none⟩ = false := by simpa using cg
      clear c0 c1 c2 c3 c4 cf cg
      generalize ((((w1.setCell ⟨w.heap.size, 0, none⟩ (.int .i64 v.k)).setCell ⟨w.heap.size, 1, none⟩ (.int .i64 v.n)).setCell ⟨w.heap.size, 2, none⟩ (.string v.s)).setCell ⟨w.heap.size, 3, none⟩ (.slice a1 v.kids.len cap1)) = X at *
      refine leaves_cons (f := 40) (args := #[.pointer (some ⟨w.heap.size, 0, none⟩), .pointer (some ⟨w.heap.size + 1, 0, none⟩)]) (by simp) (by simp [go_sem]) ?_
      refine (catch_panicking w.heap.size (w.heap.size + 1) _ _ _ _ _ 31 (.int .i64 10) [] _ d0 d1 d2 d3 d4 df dg (by omega)).mono ?_
      rintro e u' w'' ⟨rfl, rfl, rfl⟩
      simp [Leaves, settle, results, Tryd.results23, go_sem, d0, d1, d2, d3, d4]
      exact .inr ⟨HD2.out, rfl, below_err (below_set4 hb3 (Nat.le_refl _) _ _ _ _) (by omega) _⟩
  · obtain ⟨⟨c0, c1, c2, c3⟩, c4, cf, cg, hb⟩ := dec_boxes hg
    have HD := Lib.hid hd
    have HB := Lib.hid hb
    clear hd hg hb
    refine leaves_cons (f := 40) (args := #[.pointer (some ⟨w.heap.size, 0, none⟩), .pointer (some ⟨w.heap.size + 1, 0, none⟩)]) (by simp) (by simp [go_sem]) ?_
    refine (catch_panicking w.heap.size (w.heap.size + 1) _ _ _ _ _ 31 (.int .i64 10) [] _ c0 c1 c2 c3 c4 cf cg (by omega)).mono ?_
    rintro e u' w'' ⟨rfl, rfl, rfl⟩
    simp [Leaves, settle, results, Tryd.results23, go_sem, c0, c1, c2, c3, c4]
    exact .inr ⟨by unfold dec; rw [HD.out], rfl, below_err (below_set4 HB.out (Nat.le_refl _) _ _ _ _) (by omega) _⟩
end Go.Proofs.YthcbnanohjkllaaDoor
