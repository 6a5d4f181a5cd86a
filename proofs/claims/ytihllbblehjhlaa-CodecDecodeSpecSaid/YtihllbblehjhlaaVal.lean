/-
  Contracts of (*reader).value and (*reader).list.
-/
import Derived.Test.YtihllbblehjhlaaNmw
import Derived.Test.YtihllbblehjhlaaRep
namespace Go.Proofs.Ytihllbblehjhlaa
open Go.RowKit

theorem Rdr.lt {Bd R : Nat} {w : World} {l : List UInt8} (h : Rdr Bd R w l) : R < w.heap.size := by
  obtain ⟨h0, h1, a, cap, h2, h3, h4, h5⟩ := h
  exact World.block_lt_of_cell? w _ h2
theorem Rdr.same {Bd R : Nat} {w w' : World} {l : List UInt8} (h : Rdr Bd R w l) (hb : Below w.heap.size w w') : Rdr Bd R w' l := by
  have hlt := h.lt
  obtain ⟨h0, h1, a, cap, h2, h3, h4, h5⟩ := h
  exact ⟨h0, (hb.frozen (p := ⟨R, 0, none⟩) hlt).trans h1, a, cap, (hb.cell (p := ⟨R, 0, none⟩) hlt).trans h2, h3, h4, h5.below (hb.mono (by omega))⟩
theorem upd_same {R : Nat} {w w1 w2 : World} (h : w.grownBy w1 (some R)) (hb : Below w1.heap.size w1 w2) : w.grownBy w2 (some R) := upd_trans h ⟨hb.os, hb.tape, hb.output, hb.size, fun k hk _ => hb.block k hk⟩
theorem upd_of {R : Nat} {w w2 : World} (hb : Below w.heap.size w w2) : w.grownBy w2 (some R) := ⟨hb.os, hb.tape, hb.output, hb.size, fun k hk _ => hb.block k hk⟩

/-- What reading a value comes to. -/
def ValPost (Bd R : Nat) (w : World) (res : Option (Val × List UInt8)) (e : Ending) (w' : World) : Prop :=
  (∃ v a cap r, res = some (v, r) ∧ e = .returned (.agg #[.int .i64 v.k, .int .i64 v.n, .string v.s, .slice a v.kids.len cap]) ∧ Rdr Bd R w' r ∧ w.grownBy w' (some R) ∧ I64 v.k ∧ I64 v.n ∧ v.s.size ≤ maxLen ∧ RepQ (fun b => w.heap.size ≤ b ∧ b < w'.heap.size) w' a cap v.kids) ∨
  (res = none ∧ e = .panicked errCode ∧ w.grownBy w' (some R))

/-- The named result of value: a block of four cells, in a later world. -/
theorem box4_upd {w w1 : World} {x0 x1 x2 x3 : Value} {T : TypeId} {R : Nat} (hR : R < w.heap.size) (h : (w.alloc (.cells #[x0, x1, x2, x3] T)).grownBy w1 (some R)) :
    w1.cell? ⟨w.heap.size, 0, none⟩ = some x0 ∧ w1.cell? ⟨w.heap.size, 1, none⟩ = some x1 ∧ w1.cell? ⟨w.heap.size, 2, none⟩ = some x2 ∧ w1.cell? ⟨w.heap.size, 3, none⟩ = some x3 ∧ (∀ j, w1.frozen? ⟨w.heap.size, j, none⟩ = false) := by
  have hb := h.block w.heap.size (by simp) (by intro e; injection e with e; omega)
  refine ⟨?_, ?_, ?_, ?_, fun j => ?_⟩
  · rw [World.cell?_of_block (w := w.alloc (.cells #[x0, x1, x2, x3] T)) (a := ⟨w.heap.size, 0, none⟩) hb]; simp
  · rw [World.cell?_of_block (w := w.alloc (.cells #[x0, x1, x2, x3] T)) (a := ⟨w.heap.size, 1, none⟩) hb]; simp
  · rw [World.cell?_of_block (w := w.alloc (.cells #[x0, x1, x2, x3] T)) (a := ⟨w.heap.size, 2, none⟩) hb]; simp
  · rw [World.cell?_of_block (w := w.alloc (.cells #[x0, x1, x2, x3] T)) (a := ⟨w.heap.size, 3, none⟩) hb]; simp
  · rw [World.frozen?_of_block (w := w.alloc (.cells #[x0, x1, x2, x3] T)) (a := ⟨w.heap.size, j, none⟩) hb]; simp

theorem upd_cell {w w1 : World} {r : Option Nat} (h : w.grownBy w1 r) {N j : Nat} (hr : r = some N) (v : Value) : w.grownBy (w1.setCell ⟨N, j, none⟩ v) r :=
  ⟨h.os, h.tape, h.output, by simpa using h.size, fun k hk hn => by rw [Below.heap_setCell _ _ _ _ (by intro e; exact hn (by rw [hr, e]))]; exact h.block k hk hn⟩
theorem upd_set4 (w : World) (N : Nat) (v0 v1 v2 v3 : Value) : w.grownBy ((((w.setCell ⟨N, 0, none⟩ v0).setCell ⟨N, 1, none⟩ v1).setCell ⟨N, 2, none⟩ v2).setCell ⟨N, 3, none⟩ v3) (some N) :=
  upd_cell (upd_cell (upd_cell (upd_cell ⟨rfl, rfl, rfl, Nat.le_refl _, fun _ _ _ => rfl⟩ rfl _) rfl _) rfl _) rfl _
/-- A block of the call's own is written. -/
theorem upd_new {w w2 w3 : World} {R N : Nat} (h : w.grownBy w2 (some R)) (k : w2.grownBy w3 (some N)) (hN : w.heap.size ≤ N) : w.grownBy w3 (some R) :=
  ⟨k.os.trans h.os, k.tape.trans h.tape, k.output.trans h.output, Nat.le_trans h.size k.size, fun i hi hn => (k.block i (Nat.lt_of_lt_of_le hi h.size) (by intro e; injection e with e; omega)).trans (h.block i hi hn)⟩
theorem Rdr.upd {Bd R N : Nat} {w w' : World} {l : List UInt8} (h : Rdr Bd R w l) (hu : w.grownBy w' (some N)) (hN : R < N) : Rdr Bd R w' l := by
  have hlt := h.lt
  obtain ⟨h0, h1, a, cap, h2, h3, h4, h5⟩ := h
  have hb : Below (R + 1) w w' := (Below.refl _ _).grown hu (by omega) fun k hk => by injection hk with hk; omega
  exact ⟨h0, (hb.frozen (p := ⟨R, 0, none⟩) (by simp)).trans h1, a, cap, (hb.cell (p := ⟨R, 0, none⟩) (by simp)).trans h2, h3, h4, h5.below (hb.mono (by omega))⟩
theorem Rdr.below {Bd R B : Nat} {w w' : World} {l : List UInt8} (h : Rdr Bd R w l) (hRB : R < B) (hb : Below B w w') : Rdr Bd R w' l := by
  obtain ⟨h0, h1, a, cap, h2, h3, h4, h5⟩ := h
  exact ⟨h0, (hb.frozen (p := ⟨R, 0, none⟩) hRB).trans h1, a, cap, (hb.cell (p := ⟨R, 0, none⟩) hRB).trans h2, h3, h4, h5.below (hb.mono (by omega))⟩
theorem upd_below2 {R : Nat} {w w2 w3 : World} (h : w.grownBy w2 (some R)) (hb : Below w.heap.size w2 w3) : w.grownBy w3 (some R) :=
  ⟨hb.os.trans h.os, hb.tape.trans h.tape, hb.output.trans h.output, Nat.le_trans h.size hb.size, fun k hk hn => (hb.block k hk).trans (h.block k hk hn)⟩
theorem zag_bd {y : Nat} (h : y ≤ 18446744073709551615) : I64 (zag y) := by
  unfold I64 zag; split <;> omega
theorem i64_0 : I64 0 := by unfold I64; omega
theorem i64_1 : I64 1 := by unfold I64; omega
theorem i64_2 : I64 2 := by unfold I64; omega
theorem i64_3 : I64 3 := by unfold I64; omega

set_option maxRecDepth 100000 in
set_option maxHeartbeats 800000 in
theorem value_int (Bd R : Nat) (x : Int) (t : UInt8) (l : List UInt8) (w : World) (h : Rdr Bd R w (t :: l)) (ht : t.toNat = 1) :
    Calls Try.prog 30 #[.pointer (some ⟨R, 0, none⟩), .int .i64 x] w (ValPost Bd R w ((dnum l).map fun x => (⟨1, zag x.1, ByteArray.empty, .nil⟩, x.2))) := by
  have HR := Lib.hid h
  have hlt := h.lt
  clear h
  have hbt : bv t = .int .u8 1 := by unfold bv; rw [ht]; rfl
  go_enter Try.func30, Try.ntmps30
  go_wp2_with fail
  refine (take1 Bd R t l _ (HR.out.same ((Below.refl _ _).alloc (Nat.le_refl _) _))).mono ?_
  rintro e w1 ⟨b, o, rfl, hc, hrd, hg1⟩
  rw [hbt] at hc
  have HR1 := Lib.hid hrd
  have HG1 := Lib.hid (upd_trans (upd_of ((Below.refl _ _).alloc (Nat.le_refl _) _)) hg1)
  have hz : w.heap.size + 1 ≤ w1.heap.size := by simpa using hg1.size
  have HA1 := Lib.hid hg1
  clear hrd hg1
  go_wp2_with fail
  refine (numeral_any Bd R l _ HR1.out).mono ?_
  intro e w2 hp
  rcases hp with ⟨y, r, hd, rfl, hrd, hg⟩ | ⟨hd, rfl, hg⟩
  · have hy := (dnum_some hd).2
    have HD := Lib.hid hd
    obtain ⟨c0, c1, c2, c3, cf⟩ := box4_upd hlt (upd_trans HA1.out hg)
    have HR2 := Lib.hid hrd
    have HG2 := Lib.hid (upd_trans HG1.out hg)
    clear hd hrd hg
    go_wp2_with (go_at_call 40; refine (codecSigned y hy _).mono ?_; rintro e w' ⟨rfl, rfl⟩)
    refine bodyPost_ret (v := .agg #[.int .i64 1, .int .i64 (zag y), .string ByteArray.empty, .slice none 0 0]) (by simp [results, Try.results30, go_sem, c0, c1, c2, c3]; rfl) rfl ?_
    have hu := upd_set4 w2 w.heap.size (.int .i64 1) (.int .i64 (zag y)) (.string ByteArray.empty) (.slice none 0 0)
    exact .inl ⟨⟨1, zag y, ByteArray.empty, .nil⟩, none, 0, r, by rw [HD.out]; rfl, rfl, HR2.out.upd hu hlt, upd_new HG2.out hu (Nat.le_refl _), i64_1, zag_bd hy, Nat.zero_le _, Nat.zero_le _, .inl ⟨fun _ => rfl, rfl⟩⟩
  · have HD := Lib.hid hd
    exact ⟨rfl, .inr ⟨by rw [HD.out]; rfl, rfl, upd_trans HG1.out hg⟩⟩

/-- string(b), b a slice of bytes that is read. -/
theorem run_strB {B : Nat} {w : World} {a : Option Addr} {l : List UInt8} (cap : Nat) (h : RdB B w a l) : (convert 27 9 (.slice a l.length cap)).run Try.prog w = .ok (.string ⟨l.toArray⟩) w := by
  rcases h.2 with rfl | ⟨b, o, rfl, hb, hc⟩
  · rw [List.length_nil, run_convert_bytes_string w _ _ 5 a 0 cap Try.underlying27 Try.underlying5 Try.underlying9]
    cases a with
    | none => simp [Conv.bytesToString]; rfl
    | some ad => simp [Conv.bytesToString, loadCells, loadCellsFrom]; rfl
  · exact run_convert_bytes_back w _ _ _ ⟨b, o, none⟩ cap l Try.underlying27 Try.underlying5 Try.underlying9 fun j hj => by rw [addr_add]; exact hc j hj

set_option maxRecDepth 100000 in
set_option maxHeartbeats 800000 in
theorem value_text (Bd R : Nat) (x : Int) (t : UInt8) (l : List UInt8) (w : World) (h : Rdr Bd R w (t :: l)) (ht : t.toNat = 2) (hll : l.length ≤ 1000000000000) :
    Calls Try.prog 30 #[.pointer (some ⟨R, 0, none⟩), .int .i64 x] w (ValPost Bd R w ((dnum l).bind fun x => if x.1 ≤ x.2.length then some (⟨2, 0, ⟨(x.2.take x.1).toArray⟩, .nil⟩, x.2.drop x.1) else none)) := by
  have HR := Lib.hid h
  have hlt := h.lt
  clear h
  have hbt : bv t = .int .u8 2 := by unfold bv; rw [ht]; rfl
  go_enter Try.func30, Try.ntmps30
  go_wp2_with fail
  refine (take1 Bd R t l _ (HR.out.same ((Below.refl _ _).alloc (Nat.le_refl _) _))).mono ?_
  rintro e w1 ⟨b, o, rfl, hc, hrd, hg1⟩
  rw [hbt] at hc
  have HR1 := Lib.hid hrd
  have HG1 := Lib.hid (upd_trans (upd_of ((Below.refl _ _).alloc (Nat.le_refl _) _)) hg1)
  have hz : w.heap.size + 1 ≤ w1.heap.size := by simpa using hg1.size
  have HA1 := Lib.hid hg1
  clear hrd hg1
  go_wp2_with fail
  refine (numeral_any Bd R l _ HR1.out).mono ?_
  intro e w2 hp
  rcases hp with ⟨y, r, hd, rfl, hrd, hg⟩ | ⟨hd, rfl, hg⟩
  · have hy := (dnum_some hd).2
    have hsh := dnum_short hd
    have HD := Lib.hid hd
    have HA2 := Lib.hid (upd_trans HA1.out hg)
    have HR2 := Lib.hid hrd
    have HG2 := Lib.hid (upd_trans HG1.out hg)
    clear hd hrd hg
    by_cases hyr : y ≤ r.length
    · go_wp2_with fail
      refine (take_ok Bd R y r _ HR2.out hyr).mono ?_
      rintro e w3 ⟨a', rfl, hb3, hrd3, hg3⟩
      obtain ⟨c0, c1, c2, c3, cf⟩ := box4_upd hlt (upd_trans HA2.out hg3)
      have HR3 := Lib.hid hrd3
      have HG3 := Lib.hid (upd_trans HG2.out hg3)
      have hcv := run_strB y hb3
      have hlen : (r.take y).length = y := by rw [List.length_take]; omega
      rw [hlen] at hcv
      have hsz : (ByteArray.mk (r.take y).toArray).size = y := by show (r.take y).toArray.size = y; simp; omega
      have HSZ := Lib.hid hsz
      generalize hst : ByteArray.mk (r.take y).toArray = st at *
      have HST := Lib.hid hst
      clear hst hsz hlen hb3 hrd3 hg3
      go_wp2
      refine bodyPost_ret (v := .agg #[.int .i64 2, .int .i64 0, .string st, .slice none 0 0]) (by simp [results, Try.results30, go_sem, c0, c1, c2, c3]) rfl ?_
      have hu := upd_set4 w3 w.heap.size (.int .i64 2) (.int .i64 0) (.string st) (.slice none 0 0)
      exact .inl ⟨⟨2, 0, st, .nil⟩, none, 0, r.drop y, by rw [HD.out, ← HST.out]; simp [hyr], rfl, HR3.out.upd hu hlt, upd_new HG3.out hu (Nat.le_refl _), i64_2, i64_0, by show st.size ≤ maxLen; rw [HSZ.out]; unfold maxLen; omega, Nat.zero_le _, .inl ⟨fun _ => rfl, rfl⟩⟩
    · go_wp2_with fail
      refine (take_bad Bd R y r _ HR2.out hyr hy).mono ?_
      rintro e w3 ⟨rfl, rfl⟩
      exact ⟨rfl, .inr ⟨by rw [HD.out]; simp [hyr], rfl, HG2.out⟩⟩
  · have HD := Lib.hid hd
    exact ⟨rfl, .inr ⟨by rw [HD.out]; rfl, rfl, upd_trans HG1.out hg⟩⟩

set_option maxRecDepth 100000 in
set_option maxHeartbeats 800000 in
theorem value_other (Bd R : Nat) (x : Int) (t : UInt8) (l : List UInt8) (w : World) (h : Rdr Bd R w (t :: l)) (h1 : t.toNat ≠ 1) (h2 : t.toNat ≠ 2) (h3 : t.toNat ≠ 3) :
    Calls Try.prog 30 #[.pointer (some ⟨R, 0, none⟩), .int .i64 x] w (ValPost Bd R w none) := by
  have HR := Lib.hid h
  have hlt := h.lt
  clear h
  have g1 : ((t.toNat : Int) == 1) = false := by simp; omega
  have g2 : ((t.toNat : Int) == 2) = false := by simp; omega
  have g3 : ((t.toNat : Int) == 3) = false := by simp; omega
  have htl := t.toNat_lt
  clear h1 h2 h3
  go_enter Try.func30, Try.ntmps30
  go_wp2_with fail
  refine (take1 Bd R t l _ (HR.out.same ((Below.refl _ _).alloc (Nat.le_refl _) _))).mono ?_
  rintro e w1 ⟨b, o, rfl, hc, hrd, hg1⟩
  unfold bv at hc
  have HG1 := Lib.hid (upd_trans (upd_of ((Below.refl _ _).alloc (Nat.le_refl _) _)) hg1)
  clear hrd hg1
  go_wp2_with fail
  exact ⟨rfl, .inr ⟨rfl, rfl, HG1.out⟩⟩

set_option maxRecDepth 100000 in
set_option maxHeartbeats 800000 in
theorem value_empty (Bd R : Nat) (x : Int) (w : World) (h : Rdr Bd R w []) :
    Calls Try.prog 30 #[.pointer (some ⟨R, 0, none⟩), .int .i64 x] w (ValPost Bd R w none) := by
  have HR := Lib.hid h
  clear h
  go_enter Try.func30, Try.ntmps30
  go_wp2_with fail
  refine (take_bad Bd R 1 [] _ (HR.out.same ((Below.refl _ _).alloc (Nat.le_refl _) _)) (by simp) (by omega)).mono ?_
  rintro e w1 ⟨rfl, rfl⟩
  exact ⟨rfl, .inr ⟨rfl, rfl, upd_of ((Below.refl _ _).alloc (Nat.le_refl _) _)⟩⟩
end Go.Proofs.Ytihllbblehjhlaa
