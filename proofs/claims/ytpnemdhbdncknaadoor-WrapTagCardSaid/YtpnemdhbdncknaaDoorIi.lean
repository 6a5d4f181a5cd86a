/-
  Package wrap: Wrap.
-/
import Derived.Test.YtpnemdhbdncknaaDoorIh
namespace Go.Proofs.YtpnemdhbdncknaaDoor
open Go.RowKit
set_option linter.unusedVariables false
set_option linter.unusedSimpArgs false

/-- A wrap and an error. -/
def AnsW (u : Int) (X : List UInt8) (r : Int) (w : World) (e : Ending) (w' : World) : Prop := ∃ v, e = .returned (.tuple #[wrV u v, .int .i64 r]) ∧ OwnB w.heap.size w' v X ∧ Below w.heap.size w w'
theorem AnsW.open {u : Int} {X : List UInt8} {r : Int} {w w' : World} {e : Ending} (h : AnsW u X r w e w') : ∃ a c, e = .returned (.tuple #[.agg #[.int .i64 u, .slice a X.length c], .int .i64 r]) ∧ OwnB w.heap.size w' (.slice a X.length c) X ∧ Below w.heap.size w w' := by
  obtain ⟨v, rfl, ho, hb⟩ := h
  obtain ⟨a, c, rfl, -, -⟩ := ho.form
  exact ⟨a, c, rfl, ho, hb⟩
/-- What a call of Wrap knows of its blocks. -/
structure WrF (w : World) (n : Nat) (K : List UInt8) (W : World) : Prop where
  below : Below n w W
  key : BB W n 23 K
  res : CB W (n + 1) 32 #[.int .i64 0, .slice none 0 0]
  err : CB W (n + 1 + 1) 28 #[.int .i64 0]
  clo : CB W (n + 1 + 1 + 1) 55 #[wClo (n + 1) (n + 1 + 1)]
def wrW (w : World) (K : List UInt8) : World := (((w.alloc (.cells (bvA K) 23)).alloc (.cells #[.int .i64 0, .slice none 0 0] 32)).alloc (.cells #[.int .i64 0] 28)).alloc (.cells #[wClo (w.heap.size + 1) (w.heap.size + 1 + 1)] 55)
theorem CB.at {w : World} {n : Nat} (T : TypeId) (cs : Array Value) (h : w.heap.size = n) : CB (w.alloc (.cells cs T)) n T cs := h ▸ CB.new w T cs
theorem WrF.start (w : World) (K : List UInt8) : WrF w w.heap.size K (wrW w K) := by
  unfold wrW
  refine ⟨((((Below.refl _ _).alloc (Nat.le_refl _) _).alloc (by simp) _).alloc (by simp; omega) _).alloc (by simp; omega) _, (((BB.new w _ _).alloc _).alloc _).alloc _, ((CB.at _ _ ?_).alloc _).alloc _, (CB.at _ _ ?_).alloc _, CB.at _ _ ?_⟩
  all_goals simp
theorem WrF.call {w : World} {n : Nat} {K : List UInt8} {W W' : World} (h : WrF w n K W) (hb : Below W.heap.size W W') : WrF w n K W' :=
  ⟨h.below.trans (hb.mono (by have := h.key.lt; omega)), h.key.below hb h.key.lt, h.res.call hb, h.err.call hb, h.clo.call hb⟩
theorem WrF.ends {w : World} {n : Nat} {K : List UInt8} {W : World} (h : WrF w n K W) (E : Int) : Below n w (wEnds (n + 1) (n + 1 + 1) E W) ∧ CB (wEnds (n + 1) (n + 1 + 1) E W) (n + 1) 32 #[.int .i64 0, .slice none 0 0] ∧ CB (wEnds (n + 1) (n + 1 + 1) E W) (n + 1 + 1) 28 #[.int .i64 E] :=
  ⟨wEnds_below h.below (by omega) (by omega), wEnds_one (by omega) h.res, wEnds_two (by omega) h.err⟩
theorem bvA_zN : bvA zN = #[.int .u8 0, .int .u8 0, .int .u8 0, .int .u8 0, .int .u8 0, .int .u8 0, .int .u8 0, .int .u8 0, .int .u8 0, .int .u8 0, .int .u8 0, .int .u8 0] := rfl

set_option maxRecDepth 100000 in
set_option maxHeartbeats 1600000 in
theorem Wrap_any (p : Int) (K : List UInt8) (hK : K.length = 32) (hd b : List UInt8) (ah : Option Addr) (q ch : Nat) (a : Option Addr) (m cap : Nat) (w : World) (hT : Tab w) (hh : RdV w (.slice ah q ch) hd) (hl : RdV w (.slice a m cap) b) (hhl : hd.length ≤ 70368744100000) :
    Calls Tryd.prog 12 #[.int .i64 p, .agg (bvA K), .slice ah q ch, .slice a m cap] w (AnsW (wrU p K b) (wrB p K hd b) (wrE p b) w) := by
  have HT := Lib.hid hT
  have HSZ := Lib.hid (key_sz K hK)
  have HF1 := Lib.hid (WrF.start w K)
  have HHD := Lib.hid hh
  have HBD := Lib.hid hl
  have KC := Lib.hid (fun W => gCheck_any p W)
  have KS := Lib.hid (fun W h => sender_any p K hK W h)
  have KK := Lib.hid (fun W h => key_snd p (wR K : Nat) (wUn K : Nat) W h)
  have KE := Lib.hid (fun W h1 h2 h3 => Seal_any (wKey p K) zN (wKey_len p K) zN_len hd b ah q ch a m cap W h1 h2 h3 hhl)
  rw [show wK p (wUn K : Nat) (expR p (wR K : Nat)).1 = wKey p K from rfl] at KK
  obtain ⟨w1, hw1⟩ : ∃ w1, w1 = wrW w K := ⟨_, rfl⟩
  rw [← hw1] at HF1
  clear hT hh hl
  obtain ⟨Q, hQ⟩ : ∃ Q, AnsW (wrU p K b) (wrB p K hd b) (wrE p b) w = Q := ⟨_, rfl⟩
  rw [hQ]
  have HQ := Lib.hid hQ
  clear hQ
  go_enter Tryd.func12, Tryd.ntmps12
  go_wp2_with fail
  change Calls _ _ _ (wrW w K) _
  rw [← hw1]
  clear hw1
  refine (KC.out _).mono ?_
  rintro e w2 ⟨rfl, hb⟩
  have HF2 := Lib.hid (HF1.out.call hb)
  clear hb HF1 KC
  rcases chkR_or p with h | h
  · rw [h]
    go_wp2_with (first
      | (refine wpList_load_row rfl 23 (.tmp 5) rfl w.heap.size rfl _ (bvA K) (0, 0) _ HF2.out.key Tryd.underlying23 rfl HSZ.out ?_)
      | (go_at_call 26; refine (KS.out _ (HT.out.below HF2.out.below HT.out.lt)).mono ?_; rintro e w3 ⟨rfl, hb⟩; refine Hid.out ?_))
    refine Lib.hid ?_
    have HF3 := Lib.hid (HF2.out.call hb)
    clear hb HF2 KS
    obtain ⟨w4, hw4⟩ : ∃ w4, w4 = w3.alloc (.cells #[.int .i64 p, .int .i64 (wR K : Nat), .int .i64 (wUn K : Nat)] 57) := ⟨_, rfl⟩
    have HB4 : Hid (Below w3.heap.size w3 w4) := Lib.hid (hw4 ▸ (Below.refl _ _).alloc (Nat.le_refl _) _)
    have HS4 : Hid (CB w4 w3.heap.size 57 #[.int .i64 p, .int .i64 (wR K : Nat), .int .i64 (wUn K : Nat)]) := Lib.hid (hw4 ▸ CB.new w3 _ _)
    have HF4 := Lib.hid (HF3.out.call HB4.out)
    go_wp2_with fail
    rw [← hw4]
    clear hw4 HB4
    refine (KK.out _ (HT.out.below HF4.out.below HT.out.lt)).mono ?_
    rintro e w5 ⟨rfl, hb⟩
    have HF5 := Lib.hid (HF4.out.call hb)
    have HS5 := Lib.hid (HS4.out.call hb)
    clear hb HF4 HS4 KK
    go_wp2_with fail
    change Calls _ _ #[.agg (bvA (wKey p K)), .agg (bvA zN), _, _] _ _
    refine (KE.out _ (HT.out.below HF5.out.below HT.out.lt) (HHD.out.call (HF5.out.below)) (HBD.out.call HF5.out.below)).mono ?_
    rintro e w6 hA
    obtain ⟨a1, c1, rfl, ho, hb⟩ := hA.open
    have HF6 := Lib.hid (HF5.out.call hb)
    have HS6 := Lib.hid (HS5.out.call hb)
    have HO6 := Lib.hid ho
    have HZ5 := Lib.hid HF5.out.clo.lt
    clear hA hb ho HF5 HS5 KE
    have c3 : w6.cell? ⟨(w.heap.size + 1 + 1 + 1), 0, none⟩ = some (wClo (w.heap.size + 1) (w.heap.size + 1 + 1)) := HF6.out.clo.cell 0
    have c3' := c3
    unfold wClo at c3
    by_cases hbl : b.length ≤ 65536
    · have HR := Lib.hid (wr_ok h K hd hbl)
      rw [show streamE b = 0 from if_pos hbl]
      have HX : Hid (sealX (wKey p K) zN hd b = sealC (wKey p K) zN hd b) := Lib.hid (if_pos hbl)
      rw [HX.out] at HO6 ⊢
      generalize sealC (wKey p K) zN hd b = X at *
      generalize wUn K = u at *
      generalize wR K = r at *
      clear HX
      go_wp2_with fail
      refine (fails_ok _ _ _ w6).mono ?_
      rintro e w7 ⟨rfl, hw7⟩
      have HB7 : Hid (Below w6.heap.size w6 w7) := Lib.hid (hw7 ▸ (Below.refl _ _).alloc (Nat.le_refl _) _)
      clear hw7 c3 c3'
      have HF7 := Lib.hid (HF6.out.call HB7.out)
      have HO7 := Lib.hid (HO6.out.below HB7.out)
      have c2 : w7.cell? ⟨w3.heap.size, 2, none⟩ = some (.int .i64 (u : Nat)) := (HS6.out.call HB7.out).cell 2
      have d0 : w7.cell? ⟨(w.heap.size + 1), 0, none⟩ = some (.int .i64 0) := HF7.out.res.cell 0
      have d1 : w7.cell? ⟨(w.heap.size + 1), 1, none⟩ = some (.slice none 0 0) := HF7.out.res.cell 1
      have d2 : w7.cell? ⟨(w.heap.size + 1 + 1), 0, none⟩ = some (.int .i64 0) := HF7.out.err.cell 0
      have e0 := HF7.out.res.frozen 0
      have e1 := HF7.out.res.frozen 1
      have e2 := HF7.out.err.frozen 0
      clear HF6 HS6 HO6 HB7
      go_wp2_with fail
      have hn1 : (Value.slice a1 X.length c1).ownBlock ≠ some (w.heap.size + 1) := fun e => by have h1 := HO7.out.base _ e; have h2 := HZ5.out; omega
      have hn2 : (Value.slice a1 X.length c1).ownBlock ≠ some (w.heap.size + 1 + 1) := fun e => by have h1 := HO7.out.base _ e; have h2 := HZ5.out; omega
      have h9 := ((HF7.out.res.set 0 (.int .i64 (u : Nat))).set 1 (.slice a1 X.length c1)).setO (g' := (w.heap.size + 1 + 1)) (by omega) 0 (.int .i64 0)
      have h8 := ((HF7.out.err.setO (g' := (w.heap.size + 1)) (by omega) 0 (.int .i64 (u : Nat))).setO (g' := (w.heap.size + 1)) (by omega) 1 (.slice a1 X.length c1)).set 0 (.int .i64 0)
      have hB9 := ((HF7.out.below.setCell (p := ⟨(w.heap.size + 1), 0, none⟩) (Nat.le_succ _) (.int .i64 (u : Nat))).setCell (p := ⟨(w.heap.size + 1), 1, none⟩) (Nat.le_succ _) (.slice a1 X.length c1)).setCell (p := ⟨(w.heap.size + 1 + 1), 0, none⟩) (by show w.heap.size ≤ w.heap.size + 1 + 1; omega) (.int .i64 0)
      have hO9 := ((HO7.out.setO hn1 0 (.int .i64 (u : Nat))).setO hn1 1 (.slice a1 X.length c1)).setO hn2 0 (.int .i64 0)
      refine bodyPost_ret (v := .tuple #[wrV (u : Nat) (.slice a1 X.length c1), .int .i64 0]) ?_ rfl ?_
      · exact results_row_cell rfl _ _ (w.heap.size + 1) (w.heap.size + 1 + 1) _ _ (0, 0) _ rfl h9 Tryd.underlying32 rfl (by kernel_rfl) rfl _ (load_errno _ _ _ (h8.cell 0))
      · rw [← HQ.out, HR.out.1, HR.out.2.1, HR.out.2.2]
        exact ⟨_, rfl, hO9.mono (by have h2 := HZ5.out; omega), hB9⟩
    · have HR := Lib.hid (wr_long h K hd (b := b) (by omega))
      rw [show streamE b = 60 from if_neg hbl]
      have KW := Lib.hid (fails_w 60 (by decide) (w.heap.size + 1) (w.heap.size + 1 + 1) (by omega) _ _ _ w6 HF6.out.res HF6.out.err)
      have HE := Lib.hid ((HF6.out.call ((Below.refl _ _).alloc (Nat.le_refl _) (.cells #[wClo (w.heap.size + 1) (w.heap.size + 1 + 1)] 55))).ends 60)
      clear HF6 HS6 HO6 hbl
      go_wp2_with fail
      refine KW.out.mono ?_
      rintro e w7 ⟨rfl, hw7⟩
      rw [← hw7] at HE
      clear hw7 c3 c3' KW
      go_wp2_with fail
      refine bodyPost_ret (v := .tuple #[wrV 0 (.slice none 0 0), .int .i64 60]) ?_ rfl ?_
      · exact results_row_cell rfl _ _ (w.heap.size + 1) (w.heap.size + 1 + 1) _ _ (0, 0) _ rfl HE.out.2.1 Tryd.underlying32 rfl (by kernel_rfl) rfl _ (load_errno _ _ _ (HE.out.2.2.cell 0))
      · rw [← HQ.out, HR.out.1, HR.out.2.1, HR.out.2.2]
        exact ⟨_, rfl, OwnB.nil _ _, HE.out.1⟩
  · rw [h]
    have HR := Lib.hid (wr_key (p := p) (by rw [h]; decide) K hd b)
    have c3 : w2.cell? ⟨(w.heap.size + 1 + 1 + 1), 0, none⟩ = some (wClo (w.heap.size + 1) (w.heap.size + 1 + 1)) := HF2.out.clo.cell 0
    unfold wClo at c3
    have KW := Lib.hid (wEnd_any 50 (w.heap.size + 1) (w.heap.size + 1 + 1) (by omega) _ _ _ w2 HF2.out.res HF2.out.err)
    have HE := Lib.hid (HF2.out.ends 50)
    clear HF2 KS KK KE h
    go_wp2_with fail
    refine KW.out.mono ?_
    rintro e w7 ⟨rfl, hw7⟩
    rw [← hw7] at HE
    clear hw7 c3 KW
    go_wp2_with fail
    refine bodyPost_ret (v := .tuple #[wrV 0 (.slice none 0 0), .int .i64 50]) ?_ rfl ?_
    · exact results_row_cell rfl _ _ (w.heap.size + 1) (w.heap.size + 1 + 1) _ _ (0, 0) _ rfl HE.out.2.1 Tryd.underlying32 rfl (by kernel_rfl) rfl _ (load_errno _ _ _ (HE.out.2.2.cell 0))
    · rw [← HQ.out, HR.out.1, HR.out.2.1, HR.out.2.2]
      exact ⟨_, rfl, OwnB.nil _ _, HE.out.1⟩
end Go.Proofs.YtpnemdhbdncknaaDoor
