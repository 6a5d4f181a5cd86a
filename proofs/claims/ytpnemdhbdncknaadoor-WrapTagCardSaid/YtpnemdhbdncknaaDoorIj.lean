/-
  Package wrap: Unwrap.
-/
import Derived.Test.YtpnemdhbdncknaaDoorIi
import Derived.Deep.RegionHeld3
namespace Go.Proofs.YtpnemdhbdncknaaDoor
open Go.RowKit
set_option linter.unusedVariables false
set_option linter.unusedSimpArgs false

/-- The end of a call of Unwrap. -/
def uClo (g1 g2 : Nat) : Value := .func (.func 29) #[] #[.pointer (some ⟨g1, 0, none⟩), .pointer (some ⟨g2, 0, none⟩)]
def uEnds (g1 g2 : Nat) (E : Int) (W : World) : World := (W.setCell ⟨g1, 0, none⟩ (.slice none 0 0)).setCell ⟨g2, 0, none⟩ (.int .i64 E)
set_option maxRecDepth 100000 in
theorem uEnd_any (E : Int) (g1 g2 : Nat) (hne : g1 ≠ g2) (x z : Value) (W : World) (h1 : CB W g1 24 #[x]) (h2 : CB W g2 28 #[z]) :
    Calls Tryd.prog 29 #[.int .i64 E, .pointer (some ⟨g1, 0, none⟩), .pointer (some ⟨g2, 0, none⟩)] W fun e W' => e = .returned (.tuple #[]) ∧ W' = uEnds g1 g2 E W := by
  have c0 : W.cell? ⟨g1, 0, none⟩ = some x := h1.cell 0
  have c2 : W.cell? ⟨g2, 0, none⟩ = some z := h2.cell 0
  have f0 := h1.frozen 0
  have f2 := h2.frozen 0
  go_enter Tryd.func29, Tryd.ntmps29
  go_wp2_with fail
  go_end0
  exact ⟨rfl, rfl⟩
set_option maxRecDepth 100000 in
theorem fails_u (E : Int) (hE : E ≠ 0) (g1 g2 : Nat) (hne : g1 ≠ g2) (x z : Value) (w : World) (h1 : CB w g1 24 #[x]) (h2 : CB w g2 28 #[z]) :
    Calls Tryd.prog 28 #[.agg #[uClo g1 g2], .int .i64 E] w fun e w' => e = .returned (.bool true) ∧ w' = uEnds g1 g2 E (w.alloc (.cells #[uClo g1 g2] 55)) := by
  have K := Lib.hid (uEnd_any E g1 g2 hne x z (w.alloc (.cells #[uClo g1 g2] 55)) (h1.alloc _) (h2.alloc _))
  have f1 : (E == 0) = false := beq_eq_false_iff_ne.2 hE
  unfold uClo at *
  clear h1 h2
  go_enter Tryd.func28, Tryd.ntmps28
  go_wp2_with (go_at_call 29; refine K.out.mono ?_; rintro e w1 ⟨rfl, rfl⟩)
  go_ret
  exact ⟨rfl, rfl⟩

/-- What a call of Unwrap knows of its blocks. -/
structure UnF (w : World) (n : Nat) (u : Int) (v : Value) (W : World) : Prop where
  below : Below n w W
  box : CB W n 32 #[.int .i64 u, v]
  res : CB W (n + 1) 24 #[.slice none 0 0]
  err : CB W (n + 1 + 1) 28 #[.int .i64 0]
  clo : CB W (n + 1 + 1 + 1) 55 #[uClo (n + 1) (n + 1 + 1)]
def unW (w : World) (u : Int) (v : Value) : World := (((w.alloc (.cells #[.int .i64 u, v] 32)).alloc (.cells #[.slice none 0 0] 24)).alloc (.cells #[.int .i64 0] 28)).alloc (.cells #[uClo (w.heap.size + 1) (w.heap.size + 1 + 1)] 55)
theorem UnF.start (w : World) (u : Int) (v : Value) : UnF w w.heap.size u v (unW w u v) := by
  unfold unW
  refine ⟨((((Below.refl _ _).alloc (Nat.le_refl _) _).alloc (by simp) _).alloc (by simp; omega) _).alloc (by simp; omega) _, (((CB.new w _ _).alloc _).alloc _).alloc _, ((CB.at _ _ ?_).alloc _).alloc _, (CB.at _ _ ?_).alloc _, CB.at _ _ ?_⟩
  all_goals simp
theorem UnF.call {w : World} {n : Nat} {u : Int} {v : Value} {W W' : World} (h : UnF w n u v W) (hb : Below W.heap.size W W') : UnF w n u v W' :=
  ⟨h.below.trans (hb.mono (by have := h.box.lt; omega)), h.box.call hb, h.res.call hb, h.err.call hb, h.clo.call hb⟩
/-- What the first drawn region reads. -/
def UnS (n : Nat) (u : Int) (v : Value) (W : World) : Prop := W.cell? ⟨n + 1 + 1 + 1, 0, none⟩ = some (.func (.func 29) #[] #[.pointer (some ⟨n + 1, 0, none⟩), .pointer (some ⟨n + 1 + 1, 0, none⟩)]) ∧ W.cell? ⟨n, 0, none⟩ = some (.int .i64 u) ∧ W.cell? ⟨n, 1, none⟩ = some v
theorem UnF.s {w : World} {n : Nat} {u : Int} {v : Value} {W : World} (h : UnF w n u v W) : UnS n u v W := ⟨h.clo.cell 0, h.box.cell 0, h.box.cell 1⟩
structure UnD (w : World) (n : Nat) (u : Int) (v : Value) (E : Int) (W : World) : Prop where
  below : Below n w W
  res : CB W (n + 1) 24 #[.slice none 0 0]
  err : CB W (n + 1 + 1) 28 #[.int .i64 E]
  s : UnS n u v W
theorem UnF.ends {w : World} {n : Nat} {u : Int} {v : Value} {W : World} (h : UnF w n u v W) (E : Int) : UnD w n u v E (uEnds (n + 1) (n + 1 + 1) E W) := by
  refine ⟨(h.below.setCell (p := ⟨n + 1, 0, none⟩) (Nat.le_succ _) _).setCell (p := ⟨n + 1 + 1, 0, none⟩) (by show n ≤ n + 1 + 1; omega) _, (h.res.set 0 (.slice none 0 0)).setO (by omega) 0 _, (h.err.setO (by omega) 0 _).set 0 (.int .i64 E), ?_⟩
  exact ⟨((h.clo.setO (by omega) 0 _).setO (by omega) 0 _).cell 0, ((h.box.setO (by omega) 0 _).setO (by omega) 0 _).cell 0, ((h.box.setO (by omega) 0 _).setO (by omega) 0 _).cell 1⟩

theorem results_cell_cell {P : Program} {fn : Func} {p q : Tmp} {ty tq : TypeId} (h : fn.results = #[.cell p ty, .cell q tq]) (tmps : Array Value) (w : World) (g g2 : Nat)
    (hp : tmps.getD p undef = .pointer (some ⟨g, 0, none⟩)) (hq : tmps.getD q undef = .pointer (some ⟨g2, 0, none⟩)) (v1 v2 : Value) (h1 : (loadVar ty ⟨g, 0, none⟩).run P w = .ok v1 w) (h2 : (loadVar tq ⟨g2, 0, none⟩).run P w = .ok v2 w) :
    (results fn tmps).run P w = .ok (.tuple #[v1, v2]) w := by
  have hp' : tmps[p]?.getD undef = .pointer (some ⟨g, 0, none⟩) := by simpa using hp
  have hq' : tmps[q]?.getD undef = .pointer (some ⟨g2, 0, none⟩) := by simpa using hq
  simp [results, h, hp', hq', asAddr, h1, h2]
theorem load_byteS (w : World) (g : Nat) (v : Value) (h : w.cell? ⟨g, 0, none⟩ = some v) : (loadVar 24 ⟨g, 0, none⟩).run Tryd.prog w = .ok v w := by
  go_simp
/-- What the last drawn region reads. -/
def UnT (n r : Nat) (p x u : Int) (v : Value) (W : World) : Prop := W.cell? ⟨r, 0, none⟩ = some (.int .i64 p) ∧ W.cell? ⟨r, 1, none⟩ = some (.int .i64 x) ∧ W.cell? ⟨r, 2, none⟩ = some (.int .i64 u) ∧ W.cell? ⟨n, 1, none⟩ = some v
theorem UnT.of {n r : Nat} {p x u : Int} {v : Value} {W : World} (h1 : CB W r 62 #[.int .i64 p, .int .i64 x, .int .i64 u]) (h2 : CB W n 32 #[.int .i64 u, v]) : UnT n r p x u v W := ⟨h1.cell 0, h1.cell 1, h1.cell 2, h2.cell 1⟩
set_option maxRecDepth 100000 in
set_option maxHeartbeats 1600000 in
theorem Unwrap_any (x : Int) (hd c : List UInt8) (u : Int) (ah : Option Addr) (q ch : Nat) (a : Option Addr) (m cap : Nat) (w : World) (hT : Tab w) (hh : RdV w (.slice ah q ch) hd) (hl : RdV w (.slice a m cap) c) (hhl : hd.length ≤ 70368744100000) :
    Calls Tryd.prog 13 #[.int .i64 x, .slice ah q ch, wrV u (.slice a m cap)] w (AnsO (unX x hd u c) (unE x hd u c) w) := by
  unfold wrV
  have HT := Lib.hid hT
  have HF1 := Lib.hid (UnF.start w u (.slice a m cap))
  have HHD := Lib.hid hh
  have HBD := Lib.hid hl
  have KP := Lib.hid (fun W => public_any x W)
  have KC := Lib.hid (fun W => (by have k := wCheck_any u a m cap W; unfold wrV at k; exact k))
  have hm := hl.len
  rw [show wcE u m = wcE u c.length by rw [hm]] at KC
  have KK := Lib.hid (fun W h => key_rcv (pubW x).1 x u W h)
  have KE := Lib.hid (fun W h1 h2 h3 => Open_any (unKey x u) zN (unKey_len x u) zN_len hd c ah q ch a m cap W h1 h2 h3 hhl)
  rw [show wK (pubW x).1 u (expR u x).1 = unKey x u from rfl] at KK
  obtain ⟨w1, hw1⟩ : ∃ w1, w1 = unW w u (.slice a m cap) := ⟨_, rfl⟩
  rw [← hw1] at HF1
  obtain ⟨Q, hQ⟩ : ∃ Q, AnsO (unX x hd u c) (unE x hd u c) w = Q := ⟨_, rfl⟩
  rw [hQ]
  have HQ := Lib.hid hQ
  have HM := Lib.hid hm
  clear hQ hT hh hl hm
  go_enter Tryd.func13, Tryd.ntmps13
  go_wp2_with fail
  change Calls _ _ _ (unW w u (.slice a m cap)) _
  rw [← hw1]
  clear hw1
  refine (KP.out _).mono ?_
  rintro e w2 ⟨rfl, hb⟩
  have HF2 := Lib.hid (HF1.out.call hb)
  clear hb HF1 KP
  by_cases hpub : (pubW x).2 = 0
  · rw [hpub]
    obtain ⟨pk, hpk⟩ : ∃ pk, (pubW x).1 = pk := ⟨_, rfl⟩
    rw [hpk] at KK ⊢
    clear hpk
    rcases wcE_or u c.length with hce | hce
    · rw [hce] at KC
      have HR := Lib.hid (un_ok hpub hce hd)
      have hS2 : UnS w.heap.size u (.slice a m cap) w2.drew := HF2.out.s
      unfold UnS at hS2
      go_wp2_with fail
      go_region_held3 (fun w' => w'.cell? ⟨(w.heap.size + 1 + 1 + 1), 0, none⟩ = some (.func (.func 29) #[] #[.pointer (some ⟨(w.heap.size + 1), 0, none⟩), .pointer (some ⟨(w.heap.size + 1 + 1), 0, none⟩)]) ∧ w'.cell? ⟨w.heap.size, 0, none⟩ = some (.int .i64 u) ∧ w'.cell? ⟨w.heap.size, 1, none⟩ = some (.slice a m cap))
        (first
          | exact hS5
          | exact hS4
          | exact hS3
          | exact hS2)
        (first
          | (go_at_call 28
             with_reducible refine (fails_ok _ _ _ w4).mono ?_
             rintro e w5 ⟨rfl, hw5⟩
             have HB5 : Hid (Below w4.heap.size w4 w5) := Lib.hid (hw5 ▸ (Below.refl w4.heap.size w4).alloc (Nat.le_refl _) _)
             clear hw5
             have HF5 := Lib.hid (HF4.out.call HB5.out)
             have hS5 : UnS w.heap.size u (.slice a m cap) w5 := HF5.out.s
             unfold UnS at hS5)
          | (go_at_call 14
             with_reducible refine (KC.out w3).mono ?_
             rintro e w4 ⟨rfl, hb4⟩
             have HF4 := Lib.hid (HF3.out.call hb4)
             clear hb4
             have hS4 : UnS w.heap.size u (.slice a m cap) w4 := HF4.out.s
             unfold UnS at hS4)
          | (go_at_call 28
             with_reducible refine (fails_ok _ _ _ w2.drew).mono ?_
             rintro e w3 ⟨rfl, hw3⟩
             have HB3 : Hid (Below w2.heap.size w2 w3) := Lib.hid (hw3 ▸ ((Below.refl w2.heap.size w2).drew).alloc (Nat.le_refl _) _)
             clear hw3
             have HF3 := Lib.hid (HF2.out.call HB3.out)
             have hS3 : UnS w.heap.size u (.slice a m cap) w3 := HF3.out.s
             unfold UnS at hS3))

      have c0 : w5.cell? ⟨w.heap.size, 0, none⟩ = some (.int .i64 u) := HF5.out.box.cell 0
      obtain ⟨w6, hw6⟩ : ∃ w6, w6 = w5.alloc (.cells #[.int .i64 pk, .int .i64 x, .int .i64 u] 62) := ⟨_, rfl⟩
      have HB6 : Hid (Below w5.heap.size w5 w6) := Lib.hid (hw6 ▸ (Below.refl _ _).alloc (Nat.le_refl _) _)
      have HC6 : Hid (CB w6 w5.heap.size 62 #[.int .i64 pk, .int .i64 x, .int .i64 u]) := Lib.hid (hw6 ▸ CB.new w5 _ _)
      have HF6 := Lib.hid (HF5.out.call HB6.out)
      have HZ := Lib.hid HF5.out.clo.lt
      rw [bvA_zN] at KE
      obtain ⟨L, hL⟩ : ∃ L, openX (unKey x u) zN hd c = L := ⟨_, rfl⟩
      obtain ⟨r, hr⟩ : ∃ r, openE (unKey x u) zN hd c = r := ⟨_, rfl⟩
      rw [hL, hr] at HR KE
      obtain ⟨X, hX⟩ : ∃ X, unKey x u = X := ⟨_, rfl⟩
      rw [hX] at KE KK
      clear hL hr hX hS2 hS3 hS4 hS5 KC HF2 HF3 HF4 HB3 HB5
      go_wp2_with fail
      rw [← hw6]
      clear hw6 c0
      have hS6 : UnT w.heap.size w5.heap.size pk x u (.slice a m cap) w6.drew := UnT.of HC6.out HF6.out.box
      unfold UnT at hS6
      go_region_held3 (fun w' => w'.cell? ⟨w5.heap.size, 0, none⟩ = some (.int .i64 pk) ∧ w'.cell? ⟨w5.heap.size, 1, none⟩ = some (.int .i64 x) ∧ w'.cell? ⟨w5.heap.size, 2, none⟩ = some (.int .i64 u) ∧ w'.cell? ⟨w.heap.size, 1, none⟩ = some (.slice a m cap))
        (first
          | exact hS12
          | exact hS21
          | exact hS10
          | exact hS20
          | exact hS8
          | exact hS7
          | exact hS6)
        (first
          | (go_at_call 30
             with_reducible refine (KE.out w7 (HT.out.below HF7.out.below HT.out.lt) (HHD.out.call HF7.out.below) (HBD.out.call HF7.out.below)).mono ?_
             rintro e w8 hA
             obtain ⟨a1, c1, rfl, ho, hb⟩ := hA.open
             have HF8 := Lib.hid (HF7.out.call hb)
             have HC8 := Lib.hid (HC7.out.call hb)
             have HO8 := Lib.hid (ho.mono (B' := w5.heap.size) HZ7.out)
             clear hA ho hb
             have d1 : w8.cell? ⟨(w.heap.size + 1), 0, none⟩ = some (.slice none 0 0) := HF8.out.res.cell 0
             have d2 : w8.cell? ⟨(w.heap.size + 1 + 1), 0, none⟩ = some (.int .i64 0) := HF8.out.err.cell 0
             have e1 := HF8.out.res.frozen 0
             have e2 := HF8.out.err.frozen 0
             have i1 : w5.heap.size ≠ (w.heap.size + 1) := by have := HZ.out; omega
             have i2 : w5.heap.size ≠ (w.heap.size + 1 + 1) := by have := HZ.out; omega
             have i3 : w.heap.size ≠ (w.heap.size + 1) := by omega
             have i4 : w.heap.size ≠ (w.heap.size + 1 + 1) := by omega
             have hS8 : UnT w.heap.size w5.heap.size pk x u (.slice a m cap) w8 := UnT.of HC8.out HF8.out.box
             have hS10 : UnT w.heap.size w5.heap.size pk x u (.slice a m cap) (w8.setCell ⟨(w.heap.size + 1), 0, none⟩ (.slice a1 L.length c1)) := UnT.of (HC8.out.setO i1 _ _) (HF8.out.box.setO i3 _ _)
             have hS20 : UnT w.heap.size w5.heap.size pk x u (.slice a m cap) (w8.setCell ⟨(w.heap.size + 1 + 1), 0, none⟩ (.int .i64 r)) := UnT.of (HC8.out.setO i2 _ _) (HF8.out.box.setO i4 _ _)
             have hS12 : UnT w.heap.size w5.heap.size pk x u (.slice a m cap) ((w8.setCell ⟨(w.heap.size + 1), 0, none⟩ (.slice a1 L.length c1)).setCell ⟨(w.heap.size + 1 + 1), 0, none⟩ (.int .i64 r)) := UnT.of ((HC8.out.setO i1 _ _).setO i2 _ _) ((HF8.out.box.setO i3 _ _).setO i4 _ _)
             have hS21 : UnT w.heap.size w5.heap.size pk x u (.slice a m cap) ((w8.setCell ⟨(w.heap.size + 1 + 1), 0, none⟩ (.int .i64 r)).setCell ⟨(w.heap.size + 1), 0, none⟩ (.slice a1 L.length c1)) := UnT.of ((HC8.out.setO i2 _ _).setO i1 _ _) ((HF8.out.box.setO i4 _ _).setO i3 _ _)
             clear i1 i2 i3 i4
             unfold UnT at hS8 hS10 hS20 hS12 hS21)
          | (go_at_call 31
             with_reducible refine (KK.out w6.drew (HT.out.below (HF6.out.below.drew) HT.out.lt)).mono ?_
             rintro e w7 ⟨rfl, hb⟩
             have HF7 := Lib.hid ((HF6.out.call ((Below.refl w6.heap.size w6).drew)).call hb)
             have HC7 := Lib.hid ((HC6.out.call ((Below.refl w6.heap.size w6).drew)).call hb)
             have HZ7 : Hid (w5.heap.size ≤ w7.heap.size) := Lib.hid (Nat.le_trans HB6.out.size hb.size)
             clear hb
             have hS7 : UnT w.heap.size w5.heap.size pk x u (.slice a m cap) w7 := UnT.of HC7.out HF7.out.box
             unfold UnT at hS7))
      all_goals (go_wp2_with fail)
      all_goals
        have j1 : (Value.slice a1 L.length c1).ownBlock ≠ some (w.heap.size + 1) := fun e => by have h1 := HO8.out.base _ e; have h2 := HZ.out; omega
        have j2 : (Value.slice a1 L.length c1).ownBlock ≠ some (w.heap.size + 1 + 1) := fun e => by have h1 := HO8.out.base _ e; have h2 := HZ.out; omega
        have j3 : w.heap.size ≤ w5.heap.size := by have h2 := HZ.out; omega
        refine bodyPost_ret (v := .tuple #[.slice a1 L.length c1, .int .i64 r]) ?_ rfl ?_
        · first
            | exact results_cell_cell rfl _ _ (w.heap.size + 1) (w.heap.size + 1 + 1) rfl rfl _ _ (load_byteS _ _ _ (((HF8.out.res.set 0 (.slice a1 L.length c1)).setO (g' := (w.heap.size + 1 + 1)) (by omega) 0 (.int .i64 r)).cell 0)) (load_errno _ _ _ (((HF8.out.err.setO (g' := (w.heap.size + 1)) (by omega) 0 (.slice a1 L.length c1)).set 0 (.int .i64 r)).cell 0))
            | exact results_cell_cell rfl _ _ (w.heap.size + 1) (w.heap.size + 1 + 1) rfl rfl _ _ (load_byteS _ _ _ (((HF8.out.res.setO (g' := (w.heap.size + 1 + 1)) (by omega) 0 (.int .i64 r)).set 0 (.slice a1 L.length c1)).cell 0)) (load_errno _ _ _ (((HF8.out.err.set 0 (.int .i64 r)).setO (g' := (w.heap.size + 1)) (by omega) 0 (.slice a1 L.length c1)).cell 0))
        · rw [← HQ.out, HR.out.1, HR.out.2]
          first
            | exact ⟨_, rfl, (((HO8.out.setO j1 0 (.slice a1 L.length c1)).setO j2 0 (.int .i64 r)).mono j3), (HF8.out.below.setCell (p := ⟨(w.heap.size + 1), 0, none⟩) (Nat.le_succ _) (.slice a1 L.length c1)).setCell (p := ⟨(w.heap.size + 1 + 1), 0, none⟩) (by show w.heap.size ≤ w.heap.size + 1 + 1; omega) (.int .i64 r)⟩
            | exact ⟨_, rfl, (((HO8.out.setO j2 0 (.int .i64 r)).setO j1 0 (.slice a1 L.length c1)).mono j3), (HF8.out.below.setCell (p := ⟨(w.heap.size + 1 + 1), 0, none⟩) (by show w.heap.size ≤ w.heap.size + 1 + 1; omega) (.int .i64 r)).setCell (p := ⟨(w.heap.size + 1), 0, none⟩) (Nat.le_succ _) (.slice a1 L.length c1)⟩

    · rw [hce] at KC
      have HR := Lib.hid (un_wrap hpub (by rw [hce]; decide) hd)
      have hS2 : UnS w.heap.size u (.slice a m cap) w2.drew := HF2.out.s
      unfold UnS at hS2
      have KW := Lib.hid (fun W (h : UnF w w.heap.size u (.slice a m cap) W) => (by have k := fails_u 90 (by decide) (w.heap.size + 1) (w.heap.size + 1 + 1) (by omega) _ _ W h.res h.err; unfold uClo at k; exact k))
      go_wp2_with fail
      go_region_held3 (fun w' => w'.cell? ⟨(w.heap.size + 1 + 1 + 1), 0, none⟩ = some (.func (.func 29) #[] #[.pointer (some ⟨(w.heap.size + 1), 0, none⟩), .pointer (some ⟨(w.heap.size + 1 + 1), 0, none⟩)]) ∧ w'.cell? ⟨w.heap.size, 0, none⟩ = some (.int .i64 u) ∧ w'.cell? ⟨w.heap.size, 1, none⟩ = some (.slice a m cap))
        (first
          | exact hS5
          | exact hS4
          | exact hS3
          | exact hS2)
        (first
          | (go_at_call 28
             with_reducible refine (KW.out w4 HF4.out).mono ?_
             rintro e w5 ⟨rfl, hw5⟩
             have HE3 := Lib.hid ((HF4.out.call ((Below.refl _ _).alloc (Nat.le_refl _) (.cells #[uClo (w.heap.size + 1) (w.heap.size + 1 + 1)] 55))).ends 90)
             replace HE3 : Hid (UnD w w.heap.size u (.slice a m cap) 90 w5) := Lib.hid (by rw [hw5]; exact HE3.out)
             clear hw5
             have hS5 : UnS w.heap.size u (.slice a m cap) w5 := HE3.out.s
             unfold UnS at hS5)
          | (go_at_call 14
             with_reducible refine (KC.out w3).mono ?_
             rintro e w4 ⟨rfl, hb4⟩
             have HF4 := Lib.hid (HF3.out.call hb4)
             clear hb4
             have hS4 : UnS w.heap.size u (.slice a m cap) w4 := HF4.out.s
             unfold UnS at hS4)
          | (go_at_call 28
             with_reducible refine (fails_ok _ _ _ w2.drew).mono ?_
             rintro e w3 ⟨rfl, hw3⟩
             have HB3 : Hid (Below w2.heap.size w2 w3) := Lib.hid (hw3 ▸ ((Below.refl w2.heap.size w2).drew).alloc (Nat.le_refl _) _)
             clear hw3
             have HF3 := Lib.hid (HF2.out.call HB3.out)
             have hS3 : UnS w.heap.size u (.slice a m cap) w3 := HF3.out.s
             unfold UnS at hS3))

      go_wp2_with fail
      refine bodyPost_ret (v := .tuple #[.slice none 0 0, .int .i64 90]) ?_ rfl ?_
      · exact results_cell_cell rfl _ _ (w.heap.size + 1) (w.heap.size + 1 + 1) rfl rfl _ _ (load_byteS _ _ _ (HE3.out.res.cell 0)) (load_errno _ _ _ (HE3.out.err.cell 0))
      · rw [← HQ.out, HR.out.1, HR.out.2]
        exact AnsO.none HE3.out.below
  · have h50 : (pubW x).2 = 50 := by
      unfold pubW at hpub ⊢
      split at hpub
      · exact absurd rfl hpub
      · rename_i h; rw [if_neg h]
    rw [h50]
    have HR := Lib.hid (un_key hpub hd u c)
    have KW := Lib.hid (fun W (h : UnF w w.heap.size u (.slice a m cap) W) => (by have k := fails_u 50 (by decide) (w.heap.size + 1) (w.heap.size + 1 + 1) (by omega) _ _ W h.res h.err; unfold uClo at k; exact k))
    go_wp2_with fail
    refine wp_region_held_drew (S := UnS w.heap.size u (.slice a m cap)) (by kernel_rfl) HF2.out.s (fun hHeld => ?_)
    refine wpAnyH_take (i := 0) (v := .agg #[(.func (.func 29) #[] #[.pointer (some ⟨(w.heap.size + 1), 0, none⟩), .pointer (some ⟨(w.heap.size + 1 + 1), 0, none⟩)])]) rfl (by kernel_rfl) (by kernel_rfl) (by kernel_rfl) (fun _ _ _ h => h) (Or.inl ⟨by rfl, fun w hw => by obtain ⟨h1, h2, h3⟩ := hw; go_simp⟩) hHeld ?_
    simp only [Act.put, List.getElem_toArray, List.getElem_cons_zero, List.getElem_cons_succ, List.setIfInBounds_toArray, List.set_cons_zero, List.set_cons_succ]
    refine wpAnyH_take (i := 1) (v := .int .i64 50) rfl (by kernel_rfl) (by kernel_rfl) (by kernel_rfl) (fun _ _ _ h => h) (Or.inl ⟨by rfl, fun w _ => by go_simp⟩) hHeld ?_
    simp only [Act.put, List.getElem_toArray, List.getElem_cons_zero, List.getElem_cons_succ, List.setIfInBounds_toArray, List.set_cons_zero, List.set_cons_succ]
    refine wpAnyH_ready (rs := [2]) (by kernel_rfl) (by simp) (AllReadyH.cons rfl (fun K hK => ?_) AllReadyH.nil)
    go_simp
    refine (KW.out w2.drew (HF2.out.call ((Below.refl w2.heap.size w2).drew))).mono ?_
    rintro e w3 ⟨rfl, hw3⟩
    have HE3 := Lib.hid (((HF2.out.call ((Below.refl w2.heap.size w2).drew)).call ((Below.refl w2.drew.heap.size w2.drew).alloc (Nat.le_refl _) (.cells #[uClo (w.heap.size + 1) (w.heap.size + 1 + 1)] 55))).ends 50)
    replace HE3 : Hid (UnD w w.heap.size u (.slice a m cap) 50 w3) := Lib.hid (by rw [hw3]; exact HE3.out)
    clear hw3
    try go_wp2_with fail
    refine hK.out _ _ HE3.out.s (fun hHeld => ?_)
    clear hK K
    try simp only [Act.put, List.getElem_toArray, List.getElem_cons_zero, List.getElem_cons_succ, List.setIfInBounds_toArray, List.set_cons_zero, List.set_cons_succ]
    refine wpAnyH_take (i := 3) (v := .bool true) rfl (by kernel_rfl) (by kernel_rfl) (by kernel_rfl) (fun _ _ _ h => h) (Or.inl ⟨by rfl, fun w _ => by go_simp⟩) hHeld ?_
    simp only [Act.put, List.getElem_toArray, List.getElem_cons_zero, List.getElem_cons_succ, List.setIfInBounds_toArray, List.set_cons_zero, List.set_cons_succ]
    refine wpAnyH_take (i := 4) (v := undef) rfl (by kernel_rfl) (by kernel_rfl) (by kernel_rfl) (fun _ _ _ h => h) (Or.inr ⟨by rfl, rfl⟩) hHeld ?_
    simp only [Act.put, List.getElem_toArray, List.getElem_cons_zero, List.getElem_cons_succ, List.setIfInBounds_toArray, List.set_cons_zero, List.set_cons_succ]
    refine wpAnyH_take (i := 5) (v := undef) rfl (by kernel_rfl) (by kernel_rfl) (by kernel_rfl) (fun _ _ _ h => h) (Or.inr ⟨by rfl, rfl⟩) hHeld ?_
    simp only [Act.put, List.getElem_toArray, List.getElem_cons_zero, List.getElem_cons_succ, List.setIfInBounds_toArray, List.set_cons_zero, List.set_cons_succ]
    refine wpAnyH_take (i := 6) (v := undef) rfl (by kernel_rfl) (by kernel_rfl) (by kernel_rfl) (fun _ _ _ h => h) (Or.inr ⟨by rfl, rfl⟩) hHeld ?_
    simp only [Act.put, List.getElem_toArray, List.getElem_cons_zero, List.getElem_cons_succ, List.setIfInBounds_toArray, List.set_cons_zero, List.set_cons_succ]
    refine wpAnyH_take (i := 7) (v := undef) rfl (by kernel_rfl) (by kernel_rfl) (by kernel_rfl) (fun _ _ _ h => h) (Or.inr ⟨by rfl, rfl⟩) hHeld ?_
    simp only [Act.put, List.getElem_toArray, List.getElem_cons_zero, List.getElem_cons_succ, List.setIfInBounds_toArray, List.set_cons_zero, List.set_cons_succ]
    refine wpAnyH_take (i := 8) (v := .bool true) rfl (by kernel_rfl) (by kernel_rfl) (by kernel_rfl) (fun _ _ _ h => h) (Or.inl ⟨by rfl, fun w _ => by go_simp⟩) hHeld ?_
    simp only [Act.put, List.getElem_toArray, List.getElem_cons_zero, List.getElem_cons_succ, List.setIfInBounds_toArray, List.set_cons_zero, List.set_cons_succ]
    refine wpAnyH_done (by kernel_rfl) ?_ _

    go_wp2_with fail
    refine bodyPost_ret (v := .tuple #[.slice none 0 0, .int .i64 50]) ?_ rfl ?_
    · exact results_cell_cell rfl _ _ (w.heap.size + 1) (w.heap.size + 1 + 1) rfl rfl _ _ (load_byteS _ _ _ (HE3.out.res.cell 0)) (load_errno _ _ _ (HE3.out.err.cell 0))
    · rw [← HQ.out, HR.out.1, HR.out.2]
      exact AnsO.none HE3.out.below
end Go.Proofs.YtpnemdhbdncknaaDoor
