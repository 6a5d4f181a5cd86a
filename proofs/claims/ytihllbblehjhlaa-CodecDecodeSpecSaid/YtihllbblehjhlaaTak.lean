/-
  Contract of (*reader).take.
-/
import Derived.Test.YtihllbblehjhlaaByt
import Derived.BigQuiet
import Derived.Deep.QuietTactic
import Derived.Deep.RegionHeld3
import Derived.StillTailTactics
namespace Go.Proofs.Ytihllbblehjhlaa
open Go.RowKit

/-- The panic of package codec's reader. -/
def errCode : List PanicEntry := [{ v := .iface 28 (.int .i64 10), recovered := false }]

/-- The reader at block R: what is left to be read. -/
def Rdr (Bd R : Nat) (w : World) (l : List UInt8) : Prop :=
  Bd ≤ R ∧ w.frozen? ⟨R, 0, none⟩ = false ∧ ∃ a cap, w.cell? ⟨R, 0, none⟩ = some (.slice a l.length cap) ∧ l.length ≤ cap ∧ cap ≤ maxLen ∧ RdB Bd w a l

theorem upd_drew (R : Nat) (w : World) : w.grownBy w.drew (some R) := ⟨rfl, rfl, rfl, Nat.le_refl _, fun _ _ _ => rfl⟩
theorem upd_set {R : Nat} {w w2 : World} (h : w.grownBy w2 (some R)) (v : Value) : w.grownBy (w2.setCell ⟨R, 0, none⟩ v) (some R) :=
  ⟨h.os, h.tape, h.output, by simpa using h.size, fun k hk hn => by rw [Below.heap_setCell _ _ _ _ (by intro e; subst e; exact hn rfl)]; exact h.block k hk hn⟩
theorem upd_trans {R : Nat} {w w1 w2 : World} (h : w.grownBy w1 (some R)) (k : w1.grownBy w2 (some R)) : w.grownBy w2 (some R) :=
  ⟨k.os.trans h.os, k.tape.trans h.tape, k.output.trans h.output, Nat.le_trans h.size k.size, fun i hi hn => (k.block i (Nat.lt_of_lt_of_le hi h.size) hn).trans (h.block i hi hn)⟩
theorem upd_below {R B : Nat} {w w1 : World} (h : w.grownBy w1 (some R)) (hB : B ≤ R) (hs : B ≤ w.heap.size) : Below B w w1 := (Below.refl _ _).grown h hs fun k hk => by injection hk with hk; omega

/-- Behind the store into the reader's cell. -/
theorem rdr_set {Bd R : Nat} {w w2 : World} {x : Value} {a : Option Addr} {l : List UInt8} {cap : Nat} (hU : w.grownBy w2 (some R)) (hbR : Bd ≤ R) (hR : w2.cell? ⟨R, 0, none⟩ = some x) (hfz : w2.frozen? ⟨R, 0, none⟩ = false) (hl : l.length ≤ cap) (hc : cap ≤ maxLen) (hr : RdB Bd w2 a l) :
    Rdr Bd R (w2.setCell ⟨R, 0, none⟩ (.slice a l.length cap)) l ∧ w.grownBy (w2.setCell ⟨R, 0, none⟩ (.slice a l.length cap)) (some R) := by
  have hlt := World.block_lt_of_cell? w2 _ hR
  refine ⟨⟨hbR, ?_, a, cap, ?_, hl, hc, ?_⟩, upd_set hU _⟩
  · simpa using hfz
  · exact World.cell?_setCell_same _ _ _ hR
  · exact hr.below ((Below.refl _ _).setCell (by simpa using hbR) _)

set_option maxRecDepth 100000 in
set_option maxHeartbeats 400000 in
theorem take_some (Bd b o cap R n : Nat) (l : List UInt8) (w : World) (hbR : Bd ≤ R) (hbd : b < Bd) (hR : w.cell? ⟨R, 0, none⟩ = some (.slice (some ⟨b, o, none⟩) l.length cap)) (hfz : w.frozen? ⟨R, 0, none⟩ = false) (hcap : l.length ≤ cap) (hc2 : cap ≤ maxLen) (hn : n ≤ l.length)
    (hc : ∀ j (h : j < l.length), w.cell? ⟨b, o + j, none⟩ = some (bv l[j])) :
    Calls Try.prog 39 #[.pointer (some ⟨R, 0, none⟩), .int .u64 n] w fun e w' => e = .returned (.slice (some ⟨b, o, none⟩) n n) ∧ Rdr Bd R w' (l.drop n) ∧ w.grownBy w' (some R) := by
  have hc2' := hc2
  unfold maxLen at hc2
  have hwr : IntKind.u64.wrap (l.length : Int) = (l.length : Int) := by rw [IntKind.wrap_u64]; omega
  have HC := Lib.hid hc
  clear hc
  go_enter Try.func39, Try.ntmps39
  go_wp2_with fail
  go_still_tail 19, (by kernel_rfl)
  change wpList _ _ _ _ _ w.drew
  have hR2 : w.drew.cell? ⟨R, 0, none⟩ = some (.slice (some ⟨b, o, none⟩) l.length cap) := by simpa using hR
  have hfz2 : w.drew.frozen? ⟨R, 0, none⟩ = false := by simpa using hfz
  have HU := Lib.hid (upd_drew R w)
  generalize w.drew = w2 at *
  have HU2 := HU
  have hU := HU.out
  clear hR hfz HU
  have HB := Lib.hid (show RdB Bd w2 (some ⟨b, o + n, none⟩) (l.drop n) from ⟨by rw [List.length_drop]; unfold maxLen; omega, .inr ⟨b, o + n, rfl, hbd, fun j hj => by
    have h1 := HC.out (n + j) (by rw [List.length_drop] at hj; omega)
    have h2 : w2.cell? ⟨b, o + n + j, none⟩ = w.cell? ⟨b, o + (n + j), none⟩ := by
      rw [Nat.add_assoc]
      have h3 := World.block_lt_of_cell? w _ h1
      exact World.cell?_of_block (w := w) (hU.block b h3 (by intro e; injection e with e; omega))
    rw [h2, h1, List.getElem_drop]⟩⟩)
  have hld : (l.drop n).length = l.length - n := List.length_drop
  have HD := Lib.hid hld
  clear hld
  go_wp2
  · rename_i he
    go_ret
    have h0 : l.drop n = [] := List.drop_eq_nil_of_le (by omega)
    refine ⟨rfl, ?_⟩
    rw [h0]
    exact rdr_set (l := []) (a := some ⟨b, o, none⟩) (cap := 0) HU2.out hbR hR2 hfz2 (Nat.zero_le _) (by unfold maxLen; omega) ⟨by unfold maxLen; simp, .inl rfl⟩
  · go_ret
    refine ⟨rfl, ?_⟩
    have := rdr_set (l := l.drop n) (a := some ⟨b, o + n, none⟩) (cap := l.length - n) HU2.out hbR hR2 hfz2 (by rw [HD.out]; omega) (by unfold maxLen; omega) HB.out
    rw [HD.out] at this
    exact this

set_option maxRecDepth 100000 in
set_option maxHeartbeats 400000 in
theorem take_empty (Bd cap R : Nat) (a : Option Addr) (w : World) (hbR : Bd ≤ R) (hR : w.cell? ⟨R, 0, none⟩ = some (.slice a 0 cap)) (hfz : w.frozen? ⟨R, 0, none⟩ = false) (hc2 : cap ≤ maxLen) :
    Calls Try.prog 39 #[.pointer (some ⟨R, 0, none⟩), .int .u64 ((0 : Nat) : Int)] w fun e w' => ∃ a', e = .returned (.slice a' 0 0) ∧ Rdr Bd R w' [] ∧ w.grownBy w' (some R) := by
  have hc2' := hc2
  unfold maxLen at hc2
  cases a with
  | none =>
    go_enter Try.func39, Try.ntmps39
    go_wp2_with fail
    go_still_tail 19, (by kernel_rfl)
    change wpList _ _ _ _ _ w.drew
    have hR2 : w.drew.cell? ⟨R, 0, none⟩ = some (.slice none 0 cap) := by simpa using hR
    have hfz2 : w.drew.frozen? ⟨R, 0, none⟩ = false := by simpa using hfz
    have HU := Lib.hid (upd_drew R w)
    generalize w.drew = w2 at *
    clear hR hfz
    go_wp2
    all_goals
      go_ret
      exact ⟨_, rfl, rdr_set (l := []) (a := none) HU.out hbR hR2 hfz2 (Nat.zero_le _) (by unfold maxLen; omega) ⟨by unfold maxLen; simp, .inl rfl⟩⟩
  | some ad =>
    go_enter Try.func39, Try.ntmps39
    go_wp2_with fail
    go_still_tail 19, (by kernel_rfl)
    change wpList _ _ _ _ _ w.drew
    have hR2 : w.drew.cell? ⟨R, 0, none⟩ = some (.slice (some ad) 0 cap) := by simpa using hR
    have hfz2 : w.drew.frozen? ⟨R, 0, none⟩ = false := by simpa using hfz
    have HU := Lib.hid (upd_drew R w)
    generalize w.drew = w2 at *
    clear hR hfz
    go_wp2
    all_goals
      go_ret
      exact ⟨_, rfl, rdr_set (l := []) (a := (some ad)) HU.out hbR hR2 hfz2 (Nat.zero_le _) (by unfold maxLen; omega) ⟨by unfold maxLen; simp, .inl rfl⟩⟩

set_option maxRecDepth 100000 in
set_option maxHeartbeats 400000 in
theorem take_bad' (a : Option Addr) (cap R n : Nat) (l : List UInt8) (w : World) (hR : w.cell? ⟨R, 0, none⟩ = some (.slice a l.length cap)) (hc2 : l.length ≤ maxLen) (hn : ¬ n ≤ l.length) (hn2 : n ≤ 18446744073709551615) :
    Calls Try.prog 39 #[.pointer (some ⟨R, 0, none⟩), .int .u64 n] w fun e w' => e = .panicked errCode ∧ w = w' := by
  unfold maxLen at hc2
  go_enter Try.func39, Try.ntmps39
  go_wp2
  exact ⟨rfl, rfl, rfl⟩

/-- take, where there are so many bytes. -/
theorem take_ok (Bd R n : Nat) (l : List UInt8) (w : World) (h : Rdr Bd R w l) (hn : n ≤ l.length) :
    Calls Try.prog 39 #[.pointer (some ⟨R, 0, none⟩), .int .u64 n] w fun e w' => ∃ a', e = .returned (.slice a' n n) ∧ RdB Bd w' a' (l.take n) ∧ Rdr Bd R w' (l.drop n) ∧ w.grownBy w' (some R) := by
  obtain ⟨h0, h1, a, cap, h2, h3, h4, h5⟩ := h
  have hlt := World.block_lt_of_cell? w _ h2
  rcases h5.2 with rfl | ⟨b, o, rfl, hb, hc⟩
  · obtain rfl : n = 0 := by simpa using hn
    refine (take_empty Bd cap R a w h0 h2 h1 h4).mono ?_
    rintro e w' ⟨a', rfl, h6, h7⟩
    exact ⟨a', rfl, ⟨Nat.zero_le _, .inl rfl⟩, h6, h7⟩
  · refine (take_some Bd b o cap R n l w h0 hb h2 h1 h3 h4 hn hc).mono ?_
    rintro e w' ⟨rfl, h6, h7⟩
    refine ⟨_, rfl, ⟨by rw [List.length_take]; have := h5.1; omega, .inr ⟨b, o, rfl, hb, fun j hj => ?_⟩⟩, h6, h7⟩
    rw [List.length_take] at hj
    rw [List.getElem_take, ← hc j (by omega)]
    exact World.cell?_of_block (w := w) (h7.block b (by simp at hlt; omega) (by intro e; injection e with e; omega))
theorem take_bad (Bd R n : Nat) (l : List UInt8) (w : World) (h : Rdr Bd R w l) (hn : ¬ n ≤ l.length) (hn2 : n ≤ 18446744073709551615) :
    Calls Try.prog 39 #[.pointer (some ⟨R, 0, none⟩), .int .u64 n] w fun e w' => e = .panicked errCode ∧ w = w' := by
  obtain ⟨h0, h1, a, cap, h2, h3, h4, h5⟩ := h
  exact take_bad' a cap R n l w h2 h5.1 hn hn2
end Go.Proofs.Ytihllbblehjhlaa
