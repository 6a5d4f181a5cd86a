/-
  Contract of the reference's (*Reader).Value.
-/
import Derived.Test.YtihllbblehjhlaaRnx
import Derived.Test.YtihllbblehjhlaaLst
namespace Go.Proofs.Ytihllbblehjhlaa
open Go.RowKit

/-- What reading a value comes to. -/
def RvPost (Bd R : Nat) (w : World) (full : List UInt8) (res : Option (Val × List UInt8)) (e : Ending) (w' : World) : Prop :=
  ∃ v a cap, e = .returned (.agg #[.int .i64 v.k, .int .i64 v.n, .string v.s, .slice a v.kids.len cap]) ∧ w.grownBy w' (some R) ∧ I64 v.k ∧ I64 v.n ∧ v.s.size ≤ maxLen ∧ RepQ (fun b => w.heap.size ≤ b ∧ b < w'.heap.size) w' a cap v.kids ∧
    ((∃ r, res = some (v, r) ∧ RL Bd R w' full r) ∨ (res = none ∧ RX Bd R w' full))
theorem rv_ok {Bd R : Nat} {w w' : World} {full r : List UInt8} {res : Option (Val × List UInt8)} {k n : Int} {s : ByteArray} {kids : VL} {a : Option Addr} {len cap : Nat} (h : res = some (⟨k, n, s, kids⟩, r)) (hl : len = kids.len) (h2 : w.grownBy w' (some R)) (hk : I64 k) (hn : I64 n) (hs : s.size ≤ maxLen) (hq : RepQ (fun b => w.heap.size ≤ b ∧ b < w'.heap.size) w' a cap kids) (h1 : RL Bd R w' full r) :
    RvPost Bd R w full res (.returned (.agg #[.int .i64 k, .int .i64 n, .string s, .slice a len cap])) w' := by
  subst hl; exact ⟨⟨k, n, s, kids⟩, a, cap, rfl, h2, hk, hn, hs, hq, .inl ⟨r, h, h1⟩⟩
theorem rv_bad {Bd R : Nat} {w w' : World} {full : List UInt8} {res : Option (Val × List UInt8)} {k n : Int} {s : ByteArray} (kids : VL) {a : Option Addr} {len cap : Nat} (h : res = none) (hl : len = kids.len) (h2 : w.grownBy w' (some R)) (hk : I64 k) (hn : I64 n) (hs : s.size ≤ maxLen) (hq : RepQ (fun b => w.heap.size ≤ b ∧ b < w'.heap.size) w' a cap kids) (h1 : RX Bd R w' full) :
    RvPost Bd R w full res (.returned (.agg #[.int .i64 k, .int .i64 n, .string s, .slice a len cap])) w' := by
  subst hl; exact ⟨⟨k, n, s, kids⟩, a, cap, rfl, h2, hk, hn, hs, hq, .inr ⟨h, h1⟩⟩
theorem repq_nil (ok : Nat → Prop) (w : World) : RepQ ok w none 0 .nil := ⟨Nat.zero_le _, .inl ⟨fun _ => rfl, rfl⟩⟩
theorem RL.upd {Bd R N : Nat} {w w' : World} {full r : List UInt8} (h : RL Bd R w full r) (hu : w.grownBy w' (some N)) (hN : R < N) : RL Bd R w' full r := by
  have hlt := h.lt
  exact h.below (B := R + 1) (by omega) ((Below.refl _ _).grown hu (by omega) fun k hk => by injection hk with hk; omega)
theorem RX.lt {Bd R : Nat} {w : World} {l : List UInt8} (h : RX Bd R w l) : R < w.heap.size := by
  obtain ⟨p, h⟩ := h
  exact h.lt
theorem RX.upd {Bd R N : Nat} {w w' : World} {full : List UInt8} (h : RX Bd R w full) (hu : w.grownBy w' (some N)) (hN : R < N) : RX Bd R w' full := by
  have hlt := h.lt
  exact h.below (B := R + 1) (by omega) ((Below.refl _ _).grown hu (by omega) fun k hk => by injection hk with hk; omega)

/-- The empty value is answered. -/
theorem rv_zero {Bd R : Nat} {w w1 : World} {full : List UInt8} (hlt : R < w.heap.size) (hx : RX Bd R w1 full) (h2 : w.grownBy w1 (some R)) :
    RvPost Bd R w full none (.returned (.agg #[.int .i64 0, .int .i64 0, .string ByteArray.empty, .slice none 0 0])) ((((w1.setCell ⟨w.heap.size, 0, none⟩ (.int .i64 0)).setCell ⟨w.heap.size, 1, none⟩ (.int .i64 0)).setCell ⟨w.heap.size, 2, none⟩ (.string ByteArray.empty)).setCell ⟨w.heap.size, 3, none⟩ (.slice none 0 0)) := by
  have hu := upd_set4 w1 w.heap.size (.int .i64 0) (.int .i64 0) (.string ByteArray.empty) (.slice none 0 0)
  exact rv_bad .nil rfl rfl (upd_new h2 hu (Nat.le_refl _)) i64_0 i64_0 (Nat.zero_le _) (repq_nil _ _) (hx.upd hu hlt)
/-- A part of a slice of bytes. -/
theorem RdB.cut {Bd : Nat} {w : World} {b o : Nat} {l : List UInt8} (hl : l.length ≤ maxLen) (hb : b < Bd) (h : ∀ j (h : j < l.length), w.cell? ⟨b, o + j, none⟩ = some (bv l[j])) (p y : Nat) : RdB Bd w (some ⟨b, o + p, none⟩) ((l.drop p).take y) := by
  refine ⟨?_, .inr ⟨b, o + p, rfl, hb, fun j hj => ?_⟩⟩
  · rw [List.length_take, List.length_drop]; omega
  · rw [List.length_take, List.length_drop] at hj
    have h1 := h (p + j) (by omega)
    rw [Nat.add_assoc, h1, List.getElem_take, List.getElem_drop]
theorem RL.pos {Bd R : Nat} {w : World} {full l : List UInt8} {t : UInt8} (h : RL Bd R w full (t :: l)) : 0 < full.length := by
  obtain ⟨p, e, _, _⟩ := h
  have h3 : (full.drop p).length = (t :: l).length := by rw [e]
  simp only [List.length_drop, List.length_cons] at h3
  omega

set_option maxRecDepth 100000 in
set_option maxHeartbeats 800000 in
theorem rvalue_int (Bd R : Nat) (x : Int) (t : UInt8) (full l : List UInt8) (w : World) (h : RL Bd R w full (t :: l)) (ht : t.toNat = 1) :
    Calls Try.prog 31 #[.pointer (some ⟨R, 0, none⟩), .int .i64 x] w (RvPost Bd R w full ((dnum l).map fun x => (⟨1, zag x.1, ByteArray.empty, .nil⟩, x.2))) := by
  have HR := Lib.hid h
  have hlt := h.lt
  clear h
  have hbt : bv t = .int .u8 1 := by unfold bv; rw [ht]; rfl
  go_enter Try.func31, Try.ntmps31
  go_wp2_with fail
  refine (next_ok Bd R t full l _ (HR.out.below hlt ((Below.refl _ _).alloc (Nat.le_refl _) _))).mono ?_
  rintro e w1 ⟨rfl, hrd, hg1⟩
  rw [hbt]
  have HR1 := Lib.hid hrd
  have HG1 := Lib.hid (upd_trans (upd_of ((Below.refl _ _).alloc (Nat.le_refl _) _)) hg1)
  have hz : w.heap.size + 1 ≤ w1.heap.size := by simpa using hg1.size
  have HA1 := Lib.hid hg1
  clear hrd hg1
  go_wp2_with fail
  refine (rnumber_any Bd R full l _ HR1.out).mono ?_
  intro e w2 hp
  rcases hp with ⟨y, r, hd, rfl, hrd, hg⟩ | ⟨hd, rfl, hrx, hg⟩
  · have hy := (dnum_some hd).2
    have HD := Lib.hid hd
    obtain ⟨c0, c1, c2, c3, cf⟩ := box4_upd hlt (upd_trans HA1.out hg)
    have HR2 := Lib.hid hrd
    have HG2 := Lib.hid (upd_trans HG1.out hg)
    clear hd hrd hg
    go_wp2_with fail
    · have hz1 : (-((y : Int) / 2) - 1) = zag y := by
        have h1 : (y : Int) % 2 = 1 := by simpa using ‹((y : Int) % 2 == 1) = true›
        unfold zag; split <;> omega
      rw [hz1]
      refine bodyPost_ret (v := .agg #[.int .i64 1, .int .i64 (zag y), .string ByteArray.empty, .slice none 0 0]) (by simp [results, Try.results31, go_sem, c0, c1, c2, c3]; rfl) rfl ?_
      have hu := upd_set4 w2 w.heap.size (.int .i64 1) (.int .i64 (zag y)) (.string ByteArray.empty) (.slice none 0 0)
      exact rv_ok (kids := .nil) (by rw [HD.out]; rfl) rfl (upd_new HG2.out hu (Nat.le_refl _)) i64_1 (zag_bd hy) (Nat.zero_le _) (repq_nil _ _) (HR2.out.upd hu hlt)
    · have hz1 : (y : Int) / 2 = zag y := by
        have h1 : ¬ (y : Int) % 2 = 1 := by simpa using ‹((y : Int) % 2 == 1) = false›
        unfold zag; split <;> omega
      rw [hz1]
      refine bodyPost_ret (v := .agg #[.int .i64 1, .int .i64 (zag y), .string ByteArray.empty, .slice none 0 0]) (by simp [results, Try.results31, go_sem, c0, c1, c2, c3]; rfl) rfl ?_
      have hu := upd_set4 w2 w.heap.size (.int .i64 1) (.int .i64 (zag y)) (.string ByteArray.empty) (.slice none 0 0)
      exact rv_ok (kids := .nil) (by rw [HD.out]; rfl) rfl (upd_new HG2.out hu (Nat.le_refl _)) i64_1 (zag_bd hy) (Nat.zero_le _) (repq_nil _ _) (HR2.out.upd hu hlt)
  · have HD := Lib.hid hd
    obtain ⟨c0, c1, c2, c3, cf⟩ := box4_upd hlt (upd_trans HA1.out hg)
    have HX2 := Lib.hid hrx
    have HG2 := Lib.hid (upd_trans HG1.out hg)
    clear hd hrx hg
    go_wp2_with fail
    refine bodyPost_ret (v := .agg #[.int .i64 1, .int .i64 0, .string ByteArray.empty, .slice none 0 0]) (by simp [results, Try.results31, go_sem, c0, c1, c2, c3]; rfl) rfl ?_
    have hu := upd_set4 w2 w.heap.size (.int .i64 1) (.int .i64 0) (.string ByteArray.empty) (.slice none 0 0)
    exact rv_bad .nil (by rw [HD.out]; rfl) rfl (upd_new HG2.out hu (Nat.le_refl _)) i64_1 i64_0 (Nat.zero_le _) (repq_nil _ _) (HX2.out.upd hu hlt)

set_option maxRecDepth 100000 in
set_option maxHeartbeats 800000 in
theorem rvalue_other (Bd R : Nat) (x : Int) (t : UInt8) (full l : List UInt8) (w : World) (h : RL Bd R w full (t :: l)) (h1 : t.toNat ≠ 1) (h2 : t.toNat ≠ 2) (h3 : t.toNat ≠ 3) :
    Calls Try.prog 31 #[.pointer (some ⟨R, 0, none⟩), .int .i64 x] w (RvPost Bd R w full none) := by
  have HR := Lib.hid h
  have hlt := h.lt
  clear h
  have g1 : ((t.toNat : Int) == 1) = false := by simp; omega
  have g2 : ((t.toNat : Int) == 2) = false := by simp; omega
  have g3 : ((t.toNat : Int) == 3) = false := by simp; omega
  have htl := t.toNat_lt
  clear h1 h2 h3
  go_enter Try.func31, Try.ntmps31
  go_wp2_with fail
  refine (next_ok Bd R t full l _ (HR.out.below hlt ((Below.refl _ _).alloc (Nat.le_refl _) _))).mono ?_
  rintro e w1 ⟨rfl, hrd, hg1⟩
  unfold bv
  have HR1 := Lib.hid hrd
  have hbad := hrd.bad
  have hfz := hrd.frozen 2
  have HG1 := Lib.hid (upd_trans (upd_of ((Below.refl _ _).alloc (Nat.le_refl _) _)) hg1)
  obtain ⟨c0, c1, c2, c3, cf⟩ := box4_upd hlt hg1
  have hne : ¬ w.heap.size = R := by omega
  clear hrd hg1
  go_wp2_with fail
  refine bodyPost_ret (v := .agg #[.int .i64 0, .int .i64 0, .string ByteArray.empty, .slice none 0 0]) (by simp [results, Try.results31, go_sem, c0, c1, c2, c3, hne, Ne.symm hne]; rfl) rfl ?_
  exact rv_zero hlt HR1.out.setBad (upd_R HG1.out _)

set_option maxRecDepth 100000 in
set_option maxHeartbeats 800000 in
theorem rvalue_empty (Bd R : Nat) (x : Int) (full : List UInt8) (w : World) (h : RL Bd R w full []) :
    Calls Try.prog 31 #[.pointer (some ⟨R, 0, none⟩), .int .i64 x] w (RvPost Bd R w full none) := by
  have HR := Lib.hid h
  have hlt := h.lt
  clear h
  go_enter Try.func31, Try.ntmps31
  go_wp2_with fail
  refine (next_bad Bd R full _ (HR.out.below hlt ((Below.refl _ _).alloc (Nat.le_refl _) _))).mono ?_
  rintro e w1 ⟨rfl, hrd, hg1⟩
  have HX1 := Lib.hid hrd
  have hbad := hrd.bad
  have hfz := hrd.frozen 2
  have HG1 := Lib.hid (upd_trans (upd_of ((Below.refl _ _).alloc (Nat.le_refl _) _)) hg1)
  obtain ⟨c0, c1, c2, c3, cf⟩ := box4_upd hlt hg1
  have hne : ¬ w.heap.size = R := by omega
  clear hrd hg1
  go_wp2_with fail
  refine bodyPost_ret (v := .agg #[.int .i64 0, .int .i64 0, .string ByteArray.empty, .slice none 0 0]) (by simp [results, Try.results31, go_sem, c0, c1, c2, c3, hne, Ne.symm hne]; rfl) rfl ?_
  exact rv_zero hlt HX1.out.setBad (upd_R HG1.out _)

set_option maxRecDepth 100000 in
set_option maxHeartbeats 800000 in
theorem rvalue_text (Bd R : Nat) (x : Int) (t : UInt8) (full l : List UInt8) (w : World) (h : RL Bd R w full (t :: l)) (ht : t.toNat = 2) (hll : full.length ≤ 1000000000000) :
    Calls Try.prog 31 #[.pointer (some ⟨R, 0, none⟩), .int .i64 x] w (RvPost Bd R w full ((dnum l).bind fun x => if x.1 ≤ x.2.length then some (⟨2, 0, ⟨(x.2.take x.1).toArray⟩, .nil⟩, x.2.drop x.1) else none)) := by
  have HR := Lib.hid h
  have hlt := h.lt
  have hpos := h.pos
  clear h
  have hbt : bv t = .int .u8 2 := by unfold bv; rw [ht]; rfl
  go_enter Try.func31, Try.ntmps31
  go_wp2_with fail
  refine (next_ok Bd R t full l _ (HR.out.below hlt ((Below.refl _ _).alloc (Nat.le_refl _) _))).mono ?_
  rintro e w1 ⟨rfl, hrd, hg1⟩
  rw [hbt]
  have HR1 := Lib.hid hrd
  have HG1 := Lib.hid (upd_trans (upd_of ((Below.refl _ _).alloc (Nat.le_refl _) _)) hg1)
  have hz : w.heap.size + 1 ≤ w1.heap.size := by simpa using hg1.size
  have HA1 := Lib.hid hg1
  clear hrd hg1
  go_wp2_with fail
  refine (rnumber_any Bd R full l _ HR1.out).mono ?_
  intro e w2 hp
  rcases hp with ⟨y, r, hd, rfl, hrd, hg⟩ | ⟨hd, rfl, hrx, hg⟩
  · have hy := (dnum_some hd).2
    have HD := Lib.hid hd
    obtain ⟨c0, c1, c2, c3, cf⟩ := box4_upd hlt (upd_trans HA1.out hg)
    have HG2 := Lib.hid (upd_trans HG1.out hg)
    obtain ⟨p, hpd, hpl, hrs⟩ := hrd
    have hrl : r.length = full.length - p := by rw [← hpd]; simp
    have HPD := Lib.hid hpd
    have HRS := Lib.hid hrs
    obtain ⟨h0, h1, a, cap, b0, b1, b2, b3, b4, b5, b6⟩ := hrs
    have hne : ¬ w.heap.size = R := by omega
    obtain ⟨b, o, rfl, hbB, hcell⟩ : ∃ b o, a = some ⟨b, o, none⟩ ∧ b < Bd ∧ ∀ j (h : j < full.length), w2.cell? ⟨b, o + j, none⟩ = some (bv full[j]) := by
      rcases b6.2 with h9 | ⟨b, o, ha, hb, hcc⟩
      · subst h9; simp at hpos
      · exact ⟨b, o, ha, hb, hcc⟩
    have HCELL := Lib.hid hcell
    clear hcell
    have f1 := h1 1
    have f2 := h1 2
    unfold maxLen at b5
    clear hd hg hpd b6 h1
    by_cases hyr : y ≤ r.length
    · have hyr' : ¬ ((full.length : Int) - p < (y : Int)) := by omega
      go_wp2_with fail
      go_quiet (fail)
      go_wp2_with fail
      have hpy : ((p + y : Nat) : Int) = (p : Int) + (y : Int) := by omega
      have hs4 : RS Bd R ((w2.drewN nq).setCell ⟨R, 1, none⟩ (.int .i64 ((p : Int) + y))) full (p + y) false := by
        have h1 := (RS.drewN (w := w2) HRS.out nq).setAt (q := p + y) (by omega)
        rw [hpy] at h1
        exact h1
      have HS4 := Lib.hid hs4
      have HG4 := Lib.hid (upd_R (j := 1) (upd_dN HG2.out nq) (.int .i64 ((p : Int) + y)))
      have hbR : ¬ b = R := by omega
      have HC4 : Hid (∀ j (h : j < full.length), ((w2.drewN nq).setCell ⟨R, 1, none⟩ (.int .i64 ((p : Int) + y))).cell? ⟨b, o + j, none⟩ = some (bv full[j])) := by
        intro j hj
        have h1 := HCELL.out j hj
        simpa [go_sem, hbR] using h1
      have d0 : ((w2.drewN nq).setCell ⟨R, 1, none⟩ (.int .i64 ((p : Int) + y))).cell? ⟨R, 0, none⟩ = some (.slice (some ⟨b, o, none⟩) full.length cap) := by simpa [go_sem] using b0
      have d1 : ((w2.drewN nq).setCell ⟨R, 1, none⟩ (.int .i64 ((p : Int) + y))).cell? ⟨R, 1, none⟩ = some (.int .i64 ((p : Int) + y)) := by simp [go_sem, b1]
      have hkp : ∀ j, ((w2.drewN nq).setCell ⟨R, 1, none⟩ (.int .i64 ((p : Int) + y))).cell? ⟨w.heap.size, j, none⟩ = w2.cell? ⟨w.heap.size, j, none⟩ := fun j => by simp [go_sem, hne]
      have e0 := (hkp 0).trans c0
      have e1 := (hkp 1).trans c1
      have e2 := (hkp 2).trans c2
      have e3 := (hkp 3).trans c3
      clear hkp
      have ef : ∀ j, ((w2.drewN nq).setCell ⟨R, 1, none⟩ (.int .i64 ((p : Int) + y))).frozen? ⟨w.heap.size, j, none⟩ = false := fun j => by simpa [go_sem] using cf j
      clear hs4
      generalize ((w2.drewN nq).setCell ⟨R, 1, none⟩ (.int .i64 ((p : Int) + y))) = w4 at *
      clear b0 b1 b2 c0 c1 c2 c3 cf f1 f2
      have hrb := RdB.cut (by unfold maxLen; omega) hbB HC4.out p y
      have hcv := run_strB (cap - p) (w := w4.drew) hrb
      have hlen : ((full.drop p).take y).length = y := by rw [List.length_take, List.length_drop]; omega
      rw [hlen] at hcv
      have hsz : (ByteArray.mk ((full.drop p).take y).toArray).size = y := by show ((full.drop p).take y).toArray.size = y; rw [List.size_toArray, hlen]
      have HSZ := Lib.hid hsz
      rw [HPD.out] at hcv
      have HST : Hid ((ByteArray.mk ((full.drop p).take y).toArray) = ByteArray.mk (r.take y).toArray) := by show _ = _; rw [HPD.out]
      generalize hst : ByteArray.mk (r.take y).toArray = st at *
      clear hrb hlen hsz hst
      have hcv2 : ∃ o2, (if cap = p then (some ⟨b, o, none⟩ : Option Addr) else some ⟨b, o + p, none⟩) = some ⟨b, o2, none⟩ ∧ (convert 27 9 (.slice (some ⟨b, o2, none⟩) y (cap - p))).run Try.prog w4.drew = .ok (.string st) w4.drew := by
        by_cases hcp : cap = p
        · have hy0 : y = 0 := by omega
          refine ⟨o, by rw [if_pos hcp], ?_⟩
          have h1 := run_strB (B := Bd) (w := w4.drew) (a := some ⟨b, o, none⟩) (l := []) (cap - p) ⟨Nat.zero_le _, .inl rfl⟩
          have h2 := HST.out
          rw [hy0, List.take_zero] at h2
          rw [← h2, hy0]; exact h1
        · exact ⟨o + p, by rw [if_neg hcp], hcv⟩
      obtain ⟨o2, ho2, hcv3⟩ := hcv2
      clear hcv
      have hwy : IntKind.i64.wrap (y : Int) = (y : Int) := by rw [IntKind.wrap_i64]; omega
      have hwp : IntKind.i64.wrap (p : Int) = (p : Int) := by rw [IntKind.wrap_i64]; omega
      have hi0 : (p : Int) + y ≤ cap := by omega
      have hi1 : (0 : Int) ≤ p + y := by omega
      have hi2 : max ((p : Int) + y) 0 = p + y := by omega
      have hi3 : (p : Int) ≤ p + y := by omega
      have hi4 : ((p : Int) + y).toNat = p + y := by omega
      have hi5 : p + y - p = y := by omega
      go_still_tail 18, (by kernel_rfl)
      change wpList _ _ _ _ _ w4.drew
      go_wp2
      refine bodyPost_ret (v := .agg #[.int .i64 2, .int .i64 0, .string st, .slice none 0 0]) (by simp [results, Try.results31, go_sem, e0, e1, e2, e3]) rfl ?_
      have hu := upd_trans (upd_set4 w4 w.heap.size (.int .i64 2) (.int .i64 0) (.string st) (.slice none 0 0)) (upd_drew _ _)
      have hst2 : ByteArray.mk (r.take y).toArray = st := by rw [← HST.out, HPD.out]
      refine rv_ok (kids := .nil) (r := r.drop y) (by rw [HD.out, ← hst2]; simp [hyr]) rfl (upd_new HG4.out hu (Nat.le_refl _)) i64_2 i64_0 ?_ (repq_nil _ _) (RL.upd ⟨p + y, by rw [← List.drop_drop, HPD.out], by omega, HS4.out⟩ hu hlt)
      rw [← HST.out, HSZ.out]; unfold maxLen; omega
    · have hyr' : ((full.length : Int) - p < (y : Int)) := by omega
      go_wp2_with fail
      go_quiet (fail)
      go_wp2_with fail
      refine bodyPost_ret (v := .agg #[.int .i64 0, .int .i64 0, .string ByteArray.empty, .slice none 0 0]) (by simp [results, Try.results31, go_sem, c0, c1, c2, c3, hne, Ne.symm hne]; rfl) rfl ?_
      rw [HD.out]
      simp only [Option.bind_some]
      rw [if_neg hyr]
      exact rv_zero hlt ⟨p, RS.setBad (w := w2.drewN _) HRS.out⟩ (upd_R (upd_dN HG2.out _) _)
  · have HD := Lib.hid hd
    obtain ⟨c0, c1, c2, c3, cf⟩ := box4_upd hlt (upd_trans HA1.out hg)
    have HX2 := Lib.hid hrx
    have hbad := hrx.bad
    have hfz := hrx.frozen 2
    have HG2 := Lib.hid (upd_trans HG1.out hg)
    have hne : ¬ w.heap.size = R := by omega
    clear hd hrx hg
    go_wp2_with fail
    go_quiet (fail)
    go_wp2_with fail
    refine bodyPost_ret (v := .agg #[.int .i64 0, .int .i64 0, .string ByteArray.empty, .slice none 0 0]) (by simp [results, Try.results31, go_sem, c0, c1, c2, c3, hne, Ne.symm hne]; rfl) rfl ?_
    rw [HD.out]
    exact rv_zero hlt (RX.setBad (w := w2.drewN _) HX2.out) (upd_R (upd_dN HG2.out _) _)
end Go.Proofs.Ytihllbblehjhlaa
