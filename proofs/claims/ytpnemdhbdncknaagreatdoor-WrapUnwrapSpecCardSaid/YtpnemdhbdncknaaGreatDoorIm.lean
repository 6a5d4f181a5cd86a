/-
  The reference of wrap: Check, Wrap, Unwrap, Same.
-/
import Derived.Test.YtpnemdhbdncknaaGreatDoorIl
import Derived.Test.YtpnemdhbdncknaaGreatDoorPkO
import Derived.Test.YtpnemdhbdncknaaGreatDoorDk
import Derived.Test.YtpnemdhbdncknaaGreatDoorPkH
namespace Go.Proofs.YtpnemdhbdncknaaGreatDoor
open Go.RowKit
set_option linter.unusedVariables false
set_option linter.unusedSimpArgs false

set_option maxRecDepth 100000 in
set_option maxHeartbeats 800000 in
theorem rCheck9_any (u : Int) (a : Option Addr) (n c : Nat) (w : World) :
    Calls Tryz.prog 12 #[wrV u (.slice a n c)] w fun e w' => e = .returned (.int .i64 (wcE u n)) ∧ Below w.heap.size w w' := by
  unfold wrV
  have KC := Lib.hid (fun W => hCheck_any u W)
  obtain ⟨w1, hw1⟩ : ∃ w1, w1 = w.alloc (.cells #[.int .i64 u, .slice a n c] 26) := ⟨_, rfl⟩
  have HB1 : Hid (Below w.heap.size w w1) := Lib.hid (hw1 ▸ (Below.refl _ _).alloc (Nat.le_refl _) _)
  have HC1 : Hid (CB w1 w.heap.size 26 #[.int .i64 u, .slice a n c]) := Lib.hid (hw1 ▸ CB.new w _ _)
  go_enter Tryz.func12, Tryz.ntmps12
  go_wp2_with fail
  rw [← hw1]
  clear hw1
  refine (KC.out _).mono ?_
  rintro e w2 ⟨rfl, hw2⟩
  have hb : Below w1.heap.size w1 w2 := hw2 ▸ Below.refl _ _
  clear hw2
  have HB2 := Lib.hid (HB1.out.trans (hb.mono HB1.out.size))
  have c1 : w2.cell? ⟨w.heap.size, 1, none⟩ = some (.slice a n c) := (HC1.out.call hb).cell 1
  clear hb HB1 HC1 KC
  rcases chkR_or u with h | h
  · rw [h]
    by_cases h1 : n < 16
    · have f1 : decide ((n : Int) < 16) = true := decide_eq_true (by omega)
      have HE := Lib.hid (wcE_bad (u := u) (.inr (.inl h1)))
      go_wp2_with fail
      go_ret
      exact ⟨by rw [HE.out]; rfl, HB2.out⟩
    · have f1 : decide ((n : Int) < 16) = false := decide_eq_false (by omega)
      by_cases h2 : 65552 < n
      · have f2 : decide ((65552 : Int) < (n : Int)) = true := decide_eq_true (by omega)
        have HE := Lib.hid (wcE_bad (u := u) (.inr (.inr h2)))
        go_wp2_with fail
        go_ret
        exact ⟨by rw [HE.out]; rfl, HB2.out⟩
      · have f2 : decide ((65552 : Int) < (n : Int)) = false := decide_eq_false (by omega)
        have HE := Lib.hid (wcE_ok (u := u) (n := n) h (by omega) (by omega))
        go_wp2_with fail
        go_ret
        exact ⟨by rw [HE.out]; rfl, HB2.out⟩
  · have HE := Lib.hid (wcE_bad (u := u) (n := n) (.inl (by rw [h]; decide)))
    rw [h]
    go_wp2_with fail
    go_ret
    exact ⟨by rw [HE.out]; rfl, HB2.out⟩


structure WrG (w : World) (n : Nat) (K : List UInt8) (W : World) : Prop where
  below : Below n w W
  key : BB W n 23 K
  res : CB W (n + 1) 26 #[.int .i64 0, .slice none 0 0]
def wrY (w : World) (K : List UInt8) : World := (w.alloc (.cells (bvA K) 23)).alloc (.cells #[.int .i64 0, .slice none 0 0] 26)
theorem WrG.start (w : World) (K : List UInt8) : WrG w w.heap.size K (wrY w K) := by
  unfold wrY
  refine ⟨((Below.refl _ _).alloc (Nat.le_refl _) _).alloc (by simp) _, (BB.new w _ _).alloc _, CB.at _ _ ?_⟩
  simp
theorem WrG.call {w : World} {n : Nat} {K : List UInt8} {W W' : World} (h : WrG w n K W) (hb : Below W.heap.size W W') : WrG w n K W' :=
  ⟨h.below.trans (hb.mono (by have := h.key.lt; omega)), h.key.below hb h.key.lt, h.res.call hb⟩

set_option maxRecDepth 100000 in
set_option maxHeartbeats 1600000 in
theorem rWrap_any (p : Int) (K : List UInt8) (hK : K.length = 32) (hd b : List UInt8) (ah : Option Addr) (q ch : Nat) (a : Option Addr) (m cap : Nat) (w : World) (hh : RdV w (.slice ah q ch) hd) (hl : RdV w (.slice a m cap) b) (hhl : hd.length ≤ 70368744100000) :
    Calls Tryz.prog 9 #[.int .i64 p, .agg (bvA K), .slice ah q ch, .slice a m cap] w (AnsW (wrU p K b) (wrB p K hd b) (wrE p b) w) := by
  have HSZ := Lib.hid (key_sz K hK)
  have HF1 := Lib.hid (WrG.start w K)
  have HHD := Lib.hid hh
  have HBD := Lib.hid hl
  have KC := Lib.hid (fun W => hCheck_any p W)
  have KD := Lib.hid (fun W => rDScalar_any K hK (ByteArray.mk #[119, 114, 97, 112]) W (by decide))
  have KB := Lib.hid (fun W => wrBase K W)
  have KX := Lib.hid (fun W => hExp_any p (wR K : Nat) W)
  have KK := Lib.hid (fun W => rKey9_any p (wUn K : Nat) (expR p (wR K : Nat)).1 W)
  have KE := Lib.hid (fun W h2 h3 => refSealAny (wKey p K) zN (wKey_len p K) zN_len hd b ah q ch a m cap W h2 h3 hhl)
  rw [show wK p (wUn K : Nat) (expR p (wR K : Nat)).1 = wKey p K from rfl] at KK
  rw [show scS K (ByteArray.mk #[119, 114, 97, 112]) = wR K from rfl] at KD
  obtain ⟨w1, hw1⟩ : ∃ w1, w1 = wrY w K := ⟨_, rfl⟩
  rw [← hw1] at HF1
  clear hh hl
  obtain ⟨Q, hQ⟩ : ∃ Q, AnsW (wrU p K b) (wrB p K hd b) (wrE p b) w = Q := ⟨_, rfl⟩
  rw [hQ]
  have HQ := Lib.hid hQ
  clear hQ
  go_enter Tryz.func9, Tryz.ntmps9
  go_wp2_with fail
  change Calls _ _ _ (wrY w K) _
  rw [← hw1]
  clear hw1
  refine (KC.out _).mono ?_
  rintro e w2 ⟨rfl, hw2⟩
  rw [hw2]
  clear hw2 w2 KC
  rcases chkR_or p with h | h
  · rw [h]
    obtain ⟨xe, hxe⟩ : ∃ xe, (expR p (wR K : Nat)).2 = xe := ⟨_, rfl⟩
    rw [hxe] at KX
    clear hxe
    generalize (expR p (wR K : Nat)).1 = v at *
    go_wp2_with (first
      | (refine wpList_load_row rfl 23 (.tmp 5) rfl w.heap.size rfl _ (bvA K) (0, 0) _ HF1.out.key Tryz.underlying23 rfl HSZ.out ?_)
      | (go_at_call 22; refine (KD.out _).mono ?_; rintro e w3 ⟨rfl, hb⟩; refine Hid.out ?_))
    refine Lib.hid ?_
    have HF3 := Lib.hid (HF1.out.call hb)
    clear hb HF1 KD
    go_wp2_with (first
      | (go_at_call 23; with_reducible refine (KB.out _).mono ?_; rintro e w4 ⟨rfl, hw4⟩; rw [hw4]; clear hw4 w4)
      | (go_at_call 24; with_reducible refine (KX.out _).mono ?_; rintro e w4 ⟨rfl, hw4⟩; rw [hw4]; clear hw4 w4)
      | (go_at_call 26; refine (KK.out _).mono ?_; rintro e w5 ⟨rfl, hb⟩; refine Hid.out ?_))
    refine Lib.hid ?_
    have HF5 := Lib.hid (HF3.out.call hb)
    clear hb HF3 KK KX KB
    go_wp2_with fail
    change Calls _ _ #[.agg (bvA (wKey p K)), .agg (bvA zN), _, _] _ _
    refine (KE.out _ (HHD.out.call (HF5.out.below)) (HBD.out.call HF5.out.below)).mono ?_
    rintro e w6 hA
    obtain ⟨a1, c1, rfl, ho, hb⟩ := hA.open
    have HF6 := Lib.hid (HF5.out.call hb)
    have HO6 := Lib.hid ho
    have HZ5 := Lib.hid HF5.out.res.lt
    clear hA hb ho HF5 KE
    have d0 : w6.cell? ⟨(w.heap.size + 1), 0, none⟩ = some (.int .i64 0) := HF6.out.res.cell 0
    have d1 : w6.cell? ⟨(w.heap.size + 1), 1, none⟩ = some (.slice none 0 0) := HF6.out.res.cell 1
    have e0 := HF6.out.res.frozen 0
    have e1 := HF6.out.res.frozen 1
    by_cases hbl : b.length ≤ 65536
    · have HR := Lib.hid (wr_ok h K hd hbl)
      rw [show streamE b = 0 from if_pos hbl]
      have HX : Hid (sealX (wKey p K) zN hd b = sealC (wKey p K) zN hd b) := Lib.hid (if_pos hbl)
      rw [HX.out] at HO6 ⊢
      generalize sealC (wKey p K) zN hd b = X at *
      generalize wUn K = u at *
      generalize wR K = r at *
      clear HX
      go_wp2_with fail
      have hn1 : (Value.slice a1 X.length c1).ownBlock ≠ some (w.heap.size + 1) := fun e => by have h1 := HO6.out.base _ e; have h2 := HZ5.out; omega
      have h9 := (HF6.out.res.set 0 (.int .i64 (u : Nat))).set 1 (.slice a1 X.length c1)
      have hB9 := (HF6.out.below.setCell (p := ⟨(w.heap.size + 1), 0, none⟩) (Nat.le_succ _) (.int .i64 (u : Nat))).setCell (p := ⟨(w.heap.size + 1), 1, none⟩) (Nat.le_succ _) (.slice a1 X.length c1)
      have hO9 := (HO6.out.setO hn1 0 (.int .i64 (u : Nat))).setO hn1 1 (.slice a1 X.length c1)
      refine bodyPost_ret (v := .tuple #[wrV (u : Nat) (.slice a1 X.length c1), .int .i64 0]) ?_ rfl ?_
      · exact results_cell_row_tmp rfl _ _ (w.heap.size + 1) _ _ (0, 0) _ rfl h9 Tryz.underlying26 rfl (by kernel_rfl) _ rfl
      · rw [← HQ.out, HR.out.1, HR.out.2.1, HR.out.2.2]
        exact ⟨_, rfl, hO9.mono (by have h2 := HZ5.out; omega), hB9⟩
    · have HR := Lib.hid (wr_long h K hd (b := b) (by omega))
      rw [show streamE b = 60 from if_neg hbl]
      go_wp2_with fail
      have h9 := (HF6.out.res.set 0 (.int .i64 0)).set 1 (.slice none 0 0)
      have hB9 := (HF6.out.below.setCell (p := ⟨(w.heap.size + 1), 0, none⟩) (Nat.le_succ _) (.int .i64 0)).setCell (p := ⟨(w.heap.size + 1), 1, none⟩) (Nat.le_succ _) (.slice none 0 0)
      refine bodyPost_ret (v := .tuple #[wrV 0 (.slice none 0 0), .int .i64 60]) ?_ rfl ?_
      · exact results_cell_row_tmp rfl _ _ (w.heap.size + 1) _ _ (0, 0) _ rfl h9 Tryz.underlying26 rfl (by kernel_rfl) _ rfl
      · rw [← HQ.out, HR.out.1, HR.out.2.1, HR.out.2.2]
        exact ⟨_, rfl, OwnB.nil _ _, hB9⟩
  · rw [h]
    have HR := Lib.hid (wr_key (p := p) (by rw [h]; decide) K hd b)
    have d0 : w1.cell? ⟨(w.heap.size + 1), 0, none⟩ = some (.int .i64 0) := HF1.out.res.cell 0
    have d1 : w1.cell? ⟨(w.heap.size + 1), 1, none⟩ = some (.slice none 0 0) := HF1.out.res.cell 1
    have e0 := HF1.out.res.frozen 0
    have e1 := HF1.out.res.frozen 1
    clear KD KB KX KK KE h
    go_wp2_with fail
    have h9 := (HF1.out.res.set 0 (.int .i64 0)).set 1 (.slice none 0 0)
    have hB9 := (HF1.out.below.setCell (p := ⟨(w.heap.size + 1), 0, none⟩) (Nat.le_succ _) (.int .i64 0)).setCell (p := ⟨(w.heap.size + 1), 1, none⟩) (Nat.le_succ _) (.slice none 0 0)
    refine bodyPost_ret (v := .tuple #[wrV 0 (.slice none 0 0), .int .i64 50]) ?_ rfl ?_
    · exact results_cell_row_tmp rfl _ _ (w.heap.size + 1) _ _ (0, 0) _ rfl h9 Tryz.underlying26 rfl (by kernel_rfl) _ rfl
    · rw [← HQ.out, HR.out.1, HR.out.2.1, HR.out.2.2]
      exact ⟨_, rfl, OwnB.nil _ _, hB9⟩

def UnV (n : Nat) (u : Int) (v : Value) (W : World) : Prop := W.cell? ⟨n, 0, none⟩ = some (.int .i64 u) ∧ W.cell? ⟨n, 1, none⟩ = some v
theorem UnV.of {n : Nat} {u : Int} {v : Value} {W : World} (h2 : CB W n 26 #[.int .i64 u, v]) : UnV n u v W := ⟨h2.cell 0, h2.cell 1⟩
set_option maxRecDepth 100000 in
set_option maxHeartbeats 1600000 in
theorem rUnwrap_any (x : Int) (hd c : List UInt8) (u : Int) (ah : Option Addr) (q ch : Nat) (a : Option Addr) (m cap : Nat) (w : World) (hh : RdV w (.slice ah q ch) hd) (hl : RdV w (.slice a m cap) c) (hhl : hd.length ≤ 70368744100000) :
    Calls Tryz.prog 14 #[.int .i64 x, .slice ah q ch, wrV u (.slice a m cap)] w (AnsO (unX x hd u c) (unE x hd u c) w) := by
  unfold wrV
  have HHD := Lib.hid hh
  have HBD := Lib.hid hl
  have KP := Lib.hid (fun W => rPublic_any x W)
  have KC := Lib.hid (fun W => (by have k := rCheck9_any u a m cap W; unfold wrV at k; exact k))
  have hm := hl.len
  rw [show wcE u m = wcE u c.length by rw [hm]] at KC
  have KX := Lib.hid (fun W => hExp_any u x W)
  have KK := Lib.hid (fun W => rKey9_any (pubW x).1 u (expR u x).1 W)
  have KE := Lib.hid (fun W h2 h3 => refOpenAny (unKey x u) zN (unKey_len x u) zN_len hd c ah q ch a m cap W h2 h3 hhl)
  rw [show wK (pubW x).1 u (expR u x).1 = unKey x u from rfl] at KK
  obtain ⟨w1, hw1⟩ : ∃ w1, w1 = w.alloc (.cells #[.int .i64 u, .slice a m cap] 26) := ⟨_, rfl⟩
  have HB1 : Hid (Below w.heap.size w w1) := Lib.hid (hw1 ▸ (Below.refl _ _).alloc (Nat.le_refl _) _)
  have HC1 : Hid (CB w1 w.heap.size 26 #[.int .i64 u, .slice a m cap]) := Lib.hid (hw1 ▸ CB.new w _ _)
  obtain ⟨Q, hQ⟩ : ∃ Q, AnsO (unX x hd u c) (unE x hd u c) w = Q := ⟨_, rfl⟩
  rw [hQ]
  have HQ := Lib.hid hQ
  clear hQ hh hl hm
  go_enter Tryz.func14, Tryz.ntmps14
  go_wp2_with fail
  rw [← hw1]
  clear hw1
  refine (KP.out _).mono ?_
  rintro e w2 ⟨rfl, hw2⟩
  rw [hw2]
  clear hw2 w2 KP
  by_cases hpub : (pubW x).2 = 0
  · rw [hpub]
    obtain ⟨pk, hpk⟩ : ∃ pk, (pubW x).1 = pk := ⟨_, rfl⟩
    rw [hpk] at KK ⊢
    clear hpk
    have c0 : w1.cell? ⟨w.heap.size, 0, none⟩ = some (.int .i64 u) := HC1.out.cell 0
    have c1 : w1.cell? ⟨w.heap.size, 1, none⟩ = some (.slice a m cap) := HC1.out.cell 1
    go_wp2_with (go_at_call 12; refine (KC.out _).mono ?_; rintro e w2 ⟨rfl, hb⟩; refine Hid.out ?_)
    refine Lib.hid ?_
    have HB2 := Lib.hid (HB1.out.trans (hb.mono HB1.out.size))
    have HC2 := Lib.hid (HC1.out.call hb)
    clear hb HB1 HC1 KC c0 c1
    rcases wcE_or u c.length with hce | hce
    · rw [hce]
      have HR := Lib.hid (un_ok hpub hce hd)
      obtain ⟨xe, hxe⟩ : ∃ xe, (expR u x).2 = xe := ⟨_, rfl⟩
      obtain ⟨v, hv⟩ : ∃ v, (expR u x).1 = v := ⟨_, rfl⟩
      rw [hxe, hv] at KX
      rw [hv] at KK
      clear hxe hv
      rw [bvA_zN] at KE
      obtain ⟨L, hL⟩ : ∃ L, openX (unKey x u) zN hd c = L := ⟨_, rfl⟩
      obtain ⟨r, hr⟩ : ∃ r, openE (unKey x u) zN hd c = r := ⟨_, rfl⟩
      rw [hL, hr] at HR KE
      obtain ⟨X, hX⟩ : ∃ X, unKey x u = X := ⟨_, rfl⟩
      rw [hX] at KE KK
      clear hL hr hX
      have hS2 : UnV w.heap.size u (.slice a m cap) w2.drew := UnV.of HC2.out
      have hS0 : UnV w.heap.size u (.slice a m cap) w2 := UnV.of HC2.out
      obtain ⟨c0, c1⟩ := hS0
      go_wp2_with (go_at_call 24; with_reducible refine (KX.out _).mono ?_; rintro e w4 ⟨rfl, hw4⟩; rw [hw4]; clear hw4 w4)
      clear c0 c1
      unfold UnV at hS2
      go_region_held3 (fun w' => w'.cell? ⟨w.heap.size, 0, none⟩ = some (.int .i64 u) ∧ w'.cell? ⟨w.heap.size, 1, none⟩ = some (.slice a m cap))
        (first
          | exact hS4
          | exact hS3
          | exact hS2)
        (first
          | (go_at_call 32
             with_reducible refine (KE.out w3 (HHD.out.call HB3.out) (HBD.out.call HB3.out)).mono ?_
             rintro e w4 hA
             obtain ⟨a1, k1, rfl, ho, hb⟩ := hA.open
             have hS4 : UnV w.heap.size u (.slice a m cap) w4 := UnV.of (HC3.out.call hb)
             unfold UnV at hS4
             have HB4 := Lib.hid (HB3.out.trans (hb.mono HB3.out.size))
             have HO4 := Lib.hid (ho.mono HB3.out.size)
             clear hA ho hb)
          | (go_at_call 26
             with_reducible refine (KK.out w2.drew).mono ?_
             rintro e w3 ⟨rfl, hb⟩
             have HC3 := Lib.hid ((HC2.out.call ((Below.refl w2.heap.size w2).drew)).call hb)
             have HB3 := Lib.hid (HB2.out.drew.trans (hb.mono HB2.out.size))
             clear hb
             have hS3 : UnV w.heap.size u (.slice a m cap) w3 := UnV.of HC3.out
             unfold UnV at hS3))
      go_wp2_with fail
      rw [← HQ.out, HR.out.1, HR.out.2]
      exact ⟨_, rfl, HO4.out, HB4.out⟩
    · rw [hce]
      have HR := Lib.hid (un_wrap hpub (by rw [hce]; decide) hd)
      go_wp2_with fail
      rw [← HQ.out, HR.out.1, HR.out.2]
      exact AnsO.none HB2.out
  · have h50 : (pubW x).2 = 50 := by
      unfold pubW at hpub ⊢
      split at hpub
      · exact absurd rfl hpub
      · rename_i h; rw [if_neg h]
    rw [h50]
    have HR := Lib.hid (un_key hpub hd u c)
    go_wp2_with fail
    rw [← HQ.out, HR.out.1, HR.out.2]
    exact AnsO.none HB1.out

set_option maxRecDepth 100000 in
set_option maxHeartbeats 1600000 in
theorem same9_any (u : Int) (a b : Option Addr) (p q c d : Nat) (X : List UInt8) (w : World) (ha : RdV w (.slice a p c) X) (hb : RdV w (.slice b q d) X) :
    Calls Tryz.prog 10 #[wrV u (.slice a p c), wrV u (.slice b q d)] w fun e w' => e = .returned (.bool true) ∧ Below w.heap.size w w' := by
  unfold wrV
  have HB2 : Hid (Below w.heap.size w ((w.alloc (.cells #[.int .i64 u, .slice a p c] 26)).alloc (.cells #[.int .i64 u, .slice b q d] 26))) := Lib.hid (((Below.refl _ _).alloc (Nat.le_refl _) _).alloc (by simp) _)
  have h1 := (ha.call HB2.out).str
  have h2 := (hb.call HB2.out).str
  obtain ⟨s1, q1⟩ : ∃ s, (⟨X.toArray⟩ : ByteArray) = s := ⟨_, rfl⟩
  obtain ⟨s2, q2⟩ : ∃ s, (⟨X.toArray⟩ : ByteArray) = s := ⟨_, rfl⟩
  have r12 : (s1.toList == s2.toList) = true := by rw [← q1, ← q2, str_beq]; exact beq_self_eq_true _
  rw [q1] at h1
  rw [q2] at h2
  clear q1 q2 ha hb
  go_enter Tryz.func10, Tryz.ntmps10
  go_wp2_with fail
  go_ret
  exact ⟨rfl, HB2.out⟩
end Go.Proofs.YtpnemdhbdncknaaGreatDoor
