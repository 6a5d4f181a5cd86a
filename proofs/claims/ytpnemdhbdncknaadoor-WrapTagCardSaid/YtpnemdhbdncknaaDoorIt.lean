/-
  The walk of WrapTag (chartroomlaw09).
-/
import Derived.Test.YtpnemdhbdncknaaDoorIs
import Derived.StillTailTactics
namespace Go.Proofs.YtpnemdhbdncknaaDoor
open Go.RowKit
set_option linter.unusedVariables false
set_option linter.unusedSimpArgs false

theorem RdV.tail9 {w : World} {b o M c : Nat} {l : List UInt8} (h : RdV w (.slice (some ⟨b, o, none⟩) (M + 16) c) l) (hc : M + 16 ≤ c) : RdV w (.slice (some ⟨b, o + M, none⟩) 16 (c - M)) (l.drop M) := by
  have hq := h.len
  obtain ⟨a', c', e, h1, h2, h3, h4⟩ := h.form
  injection e with e1 e2 e3
  subst e1; subst e3
  exact ⟨_, _, by rw [List.length_drop, ← hq, Nat.add_sub_cancel_left], h1.drop M, by rw [List.length_drop]; omega, by omega, fun e => by cases e⟩
theorem RdV.head9 {w : World} {g : Nat} {D : List UInt8} (h : BB w g 46 D) (hl : D.length = 32) : RdV w (.slice (some ⟨g, 0, none⟩) 16 32) (D.take 16) :=
  ⟨_, _, by rw [List.length_take, hl]; rfl, (h.rdb (by rw [hl]; unfold maxLen; omega)).take 16, by rw [List.length_take, hl]; decide, by unfold maxLen; omega, fun e => by cases e⟩

set_option maxRecDepth 100000 in
set_option maxHeartbeats 8000000 in
theorem tag_walk9 (x0 : Int) (hx1 : -9223372036854775808 ≤ x0) (hx2 : x0 < 9223372036854775808) (hd c : List UInt8) (u : Int) (ah : Option Addr) (p ch : Nat) (a : Option Addr) (m cap : Nat) (w : World) (hT : Tab w) (hh : RdV w (.slice ah p ch) hd) (hl : RdV w (.slice a m cap) c) (hp2 : p < 140737488355328) (hm2 : m < 140737488355328) :
    Calls Tryd.prog 5 #[.int .i64 x0, .slice ah p ch, wrV u (.slice a m cap)] w fun e w' => e = .returned (.bool true) ∧ Below w.heap.size w w' := by
  have KF := Lib.hid (fun W g T h => few2_any ah p ch a m cap (by omega) (by omega) g W T h)
  have KY := Lib.hid (fun W => rKey x0 hx1 hx2 W)
  have hxb := keyN_bd x0
  obtain ⟨x, hx⟩ : ∃ x, keyN x0 = x := ⟨_, rfl⟩
  rw [hx] at KY hxb
  have HXB := Lib.hid hxb
  have HP := Lib.hid hh.len
  have HM := Lib.hid hl.len
  have HH := Lib.hid hh
  have HT := Lib.hid hT
  have KC := Lib.hid (fun W => wCheck_any u a m cap W)
  rw [show wcE u m = wcE u c.length by rw [HM.out]] at KC
  unfold wrV at KC ⊢
  clear hT hh hx hxb hx1 hx2
  by_cases hf : p + m ≤ 600
  rotate_left
  · rw [decide_eq_false hf] at KF
    clear hf hp2 hm2
    obtain ⟨w1, hw1⟩ : ∃ w1, w1 = w.alloc (.cells #[.int .i64 u, .slice a m cap] 32) := ⟨_, rfl⟩
    have HS1 : Hid (SnW w w1) := Lib.hid (hw1 ▸ (SnW.mk (Below.refl _ _) HT.out).alloc _)
    have HC1 : Hid (CB w1 w.heap.size 32 #[.int .i64 u, .slice a m cap]) := Lib.hid (hw1 ▸ CB.new w _ _)
    go_enter Tryd.func5, Tryd.ntmps5
    go_wp2_with fail
    rw [← hw1]
    clear hw1
    refine (sane9_any _ HS1.out.tab).mono ?_
    rintro e w2 ⟨rfl, hb⟩
    have HC2 := Lib.hid (HC1.out.call hb)
    have c1 : w2.cell? ⟨w.heap.size, 1, none⟩ = some (.slice a m cap) := HC2.out.cell 1
    have HG3 := Lib.hid (CB.new w2 24 #[.slice ah p ch, .slice a m cap])
    have HC3 := Lib.hid (HC2.out.alloc (.cells #[.slice ah p ch, .slice a m cap] 24))
    have HS3 := Lib.hid ((HS1.out.call hb).alloc (.cells #[.slice ah p ch, .slice a m cap] 24))
    clear hb HS1 HC1 HC2
    go_wp2_with fail
    clear c1
    refine (KF.out _ _ _ HG3.out).mono ?_
    rintro e w3 ⟨rfl, hw3⟩
    rw [← hw3] at HS3 HC3
    clear hw3 HG3 KF
    go_wp2_with fail
    go_ret
    exact ⟨rfl, HS3.out.below⟩
  rw [decide_eq_true hf] at KF
  have HPL : Hid (hd.length ≤ 70368744100000) := Lib.hid (by rw [← HP.out]; omega)
  have HF := Lib.hid hf
  clear hf hp2 hm2
  have hpw : (pubW (x : Nat)).2 = 0 := by rw [pubW_ok HXB.out.1 HXB.out.2]
  rcases wcE_or u c.length with hF | hF
  rotate_left
  · rw [hF] at KC
    obtain ⟨e1, e2⟩ := un_wrap (x := (x : Nat)) (u := u) (c := c) hpw (by rw [hF]; decide) hd
    have KU := Lib.hid (fun W h1 h2 h3 => Unwrap_any ((x : Nat) : Int) hd c u ah p ch a m cap W h1 h2 h3 HPL.out)
    rw [e1, e2] at KU
    unfold wrV at KU
    have HNX : Hid (([] : List UInt8).length = 0) := Lib.hid rfl
    have HL := Lib.hid hl
    clear e1 e2 hpw hF hl
    obtain ⟨w1, hw1⟩ : ∃ w1, w1 = w.alloc (.cells #[.int .i64 u, .slice a m cap] 32) := ⟨_, rfl⟩
    have HS1 : Hid (SnW w w1) := Lib.hid (hw1 ▸ (SnW.mk (Below.refl _ _) HT.out).alloc _)
    have HC1 : Hid (CB w1 w.heap.size 32 #[.int .i64 u, .slice a m cap]) := Lib.hid (hw1 ▸ CB.new w _ _)
    go_enter Tryd.func5, Tryd.ntmps5
    go_wp2_with fail
    rw [← hw1]
    clear hw1
    refine (sane9_any _ HS1.out.tab).mono ?_
    rintro e w2 ⟨rfl, hb⟩
    have HC2 := Lib.hid (HC1.out.call hb)
    have c1 : w2.cell? ⟨w.heap.size, 1, none⟩ = some (.slice a m cap) := HC2.out.cell 1
    have HG3 := Lib.hid (CB.new w2 24 #[.slice ah p ch, .slice a m cap])
    have HC3 := Lib.hid (HC2.out.alloc (.cells #[.slice ah p ch, .slice a m cap] 24))
    have HS3 := Lib.hid ((HS1.out.call hb).alloc (.cells #[.slice ah p ch, .slice a m cap] 24))
    clear hb HS1 HC1 HC2
    go_wp2_with fail
    clear c1
    refine (KF.out _ _ _ HG3.out).mono ?_
    rintro e w3 ⟨rfl, hw3⟩
    rw [← hw3] at HS3 HC3
    clear hw3 HG3 KF
    have c0 : w3.cell? ⟨w.heap.size, 0, none⟩ = some (.int .i64 u) := HC3.out.cell 0
    have c1 : w3.cell? ⟨w.heap.size, 1, none⟩ = some (.slice a m cap) := HC3.out.cell 1
    go_wp2_with (go_at_call 10; with_reducible refine (KY.out _).mono ?_; rintro e w4 ⟨rfl, hw⟩; rw [hw]; clear hw w4)
    clear c0 c1
    refine (KU.out _ HS3.out.tab (HH.out.call HS3.out.below) (HL.out.call HS3.out.below)).mono ?_
    rintro e w4 hA
    obtain ⟨a4, c4, rfl, -, hb⟩ := hA.open
    rw [HNX.out]
    have HS4 := Lib.hid (HS3.out.call hb)
    have HC4 := Lib.hid (HC3.out.call hb)
    clear hA hb HS3 HC3 KU KY
    have c0 : w4.cell? ⟨w.heap.size, 0, none⟩ = some (.int .i64 u) := HC4.out.cell 0
    have c1 : w4.cell? ⟨w.heap.size, 1, none⟩ = some (.slice a m cap) := HC4.out.cell 1
    go_wp2_with fail
    clear c0 c1
    refine (KC.out _).mono ?_
    rintro e w5 ⟨rfl, hb⟩
    have HS5 := Lib.hid (HS4.out.call hb)
    have HC5 := Lib.hid (HC4.out.call hb)
    clear hb HS4 HC4 KC
    go_wp2_with fail
    go_ret
    exact ⟨rfl, HS5.out.below⟩
  rw [hF] at KC
  obtain ⟨hcu, h16, h65⟩ := wcE_out hF
  rw [← HM.out] at h16 h65
  obtain ⟨s, hs⟩ : ∃ s, m = s + 16 := ⟨m - 16, by omega⟩
  subst hs
  obtain ⟨b, o, hab, -, -⟩ := hl.cell (by omega)
  subst hab
  obtain ⟨hue, hux⟩ := un_tag (x := (x : Nat)) (u := u) (c := c) hpw hF hd
  have KU := Lib.hid (fun W h1 h2 h3 => Unwrap_any ((x : Nat) : Int) hd c u ah p ch (some ⟨b, o, none⟩) (s + 16) cap W h1 h2 h3 HPL.out)
  unfold wrV at KU
  have he2 := expR_two (u := u) (k := x) hcu HXB.out.2
  have KP := Lib.hid (fun W => public_ok x HXB.out.1 HXB.out.2 W)
  have KX := Lib.hid (fun W => gExp_any u (x : Nat) W)
  rw [he2] at KX
  have KK := Lib.hid (fun W h => key9_any ((pubS x : Nat) : Int) u (expR u (x : Nat)).1 W h)
  rw [show wK ((pubS x : Nat) : Int) u (expR u (x : Nat)).1 = unKey (x : Nat) u from (by unfold unKey; rw [pubW_ok HXB.out.1 HXB.out.2])] at KK
  have HKL : Hid ((unKey (x : Nat) u).length = 32) := Lib.hid (unKey_len _ _)
  obtain ⟨v, hv⟩ : ∃ v, (expR u (x : Nat)).1 = v := ⟨_, rfl⟩
  rw [hv] at KX KK
  obtain ⟨X, hX⟩ : ∃ X, unX (x : Nat) hd u c = X := ⟨_, rfl⟩
  obtain ⟨E, hE⟩ : ∃ E, unE (x : Nat) hd u c = E := ⟨_, rfl⟩
  obtain ⟨nX, hnX⟩ : ∃ n, X.length = n := ⟨_, rfl⟩
  have HNX := Lib.hid hnX
  rw [hE] at hue KU
  rw [hX] at hux KU
  rw [hnX, ← HM.out, Nat.add_sub_cancel] at hux
  obtain ⟨kk, hkk⟩ : ∃ kk, unKey (x : Nat) u = kk := ⟨_, rfl⟩
  rw [hkk] at hue hux KK HKL
  have HTG : Hid (tagged16 kk zN hd c = (c.drop s == (tagS [116, 97, 103] (kk ++ zN ++ be8 (p : Nat) ++ hd ++ c.take s)).take 16)) := Lib.hid (by
    unfold tagged16 tagC
    rw [← HM.out, ← HP.out, Nat.add_sub_cancel])
  have HUE := Lib.hid hue
  have HUX := Lib.hid hux
  have HL := Lib.hid hl
  have HcapM : Hid (s + 16 ≤ cap) := Lib.hid hl.caps
  clear hpw hF hcu h16 h65 hue hux he2 hv hX hE hnX hkk hl
  generalize pubS x = pk at *
  obtain ⟨w1, hw1⟩ : ∃ w1, w1 = w.alloc (.cells #[.int .i64 u, .slice (some ⟨b, o, none⟩) (s + 16) cap] 32) := ⟨_, rfl⟩
  have HS1 : Hid (SnW w w1) := Lib.hid (hw1 ▸ (SnW.mk (Below.refl _ _) HT.out).alloc _)
  have HC1 : Hid (CB w1 w.heap.size 32 #[.int .i64 u, .slice (some ⟨b, o, none⟩) (s + 16) cap]) := Lib.hid (hw1 ▸ CB.new w _ _)
  go_enter Tryd.func5, Tryd.ntmps5
  go_wp2_with fail
  rw [← hw1]
  clear hw1
  refine (sane9_any _ HS1.out.tab).mono ?_
  rintro e w2 ⟨rfl, hb⟩
  have HC2 := Lib.hid (HC1.out.call hb)
  have c1 : w2.cell? ⟨w.heap.size, 1, none⟩ = some (.slice (some ⟨b, o, none⟩) (s + 16) cap) := HC2.out.cell 1
  have HG3 := Lib.hid (CB.new w2 24 #[.slice ah p ch, .slice (some ⟨b, o, none⟩) (s + 16) cap])
  have HC3 := Lib.hid (HC2.out.alloc (.cells #[.slice ah p ch, .slice (some ⟨b, o, none⟩) (s + 16) cap] 24))
  have HS3 := Lib.hid ((HS1.out.call hb).alloc (.cells #[.slice ah p ch, .slice (some ⟨b, o, none⟩) (s + 16) cap] 24))
  clear hb HS1 HC1 HC2
  go_wp2_with fail
  clear c1
  refine (KF.out _ _ _ HG3.out).mono ?_
  rintro e w3 ⟨rfl, hw3⟩
  rw [← hw3] at HS3 HC3
  clear hw3 HG3 KF
  have c0 : w3.cell? ⟨w.heap.size, 0, none⟩ = some (.int .i64 u) := HC3.out.cell 0
  have c1 : w3.cell? ⟨w.heap.size, 1, none⟩ = some (.slice (some ⟨b, o, none⟩) (s + 16) cap) := HC3.out.cell 1
  go_wp2_with (go_at_call 10; with_reducible refine (KY.out _).mono ?_; rintro e w4 ⟨rfl, hw⟩; rw [hw]; clear hw w4)
  clear c0 c1
  refine (KU.out _ HS3.out.tab (HH.out.call HS3.out.below) (HL.out.call HS3.out.below)).mono ?_
  rintro e w4 hA
  obtain ⟨a4, c4, rfl, -, hb⟩ := hA.open
  rw [HNX.out]
  have HS4 := Lib.hid (HS3.out.call hb)
  have HC4 := Lib.hid (HC3.out.call hb)
  clear hA hb HS3 HC3 KU KY
  have c0 : w4.cell? ⟨w.heap.size, 0, none⟩ = some (.int .i64 u) := HC4.out.cell 0
  have c1 : w4.cell? ⟨w.heap.size, 1, none⟩ = some (.slice (some ⟨b, o, none⟩) (s + 16) cap) := HC4.out.cell 1
  go_wp2_with fail
  clear c0 c1
  refine (KC.out _).mono ?_
  rintro e w5 ⟨rfl, hb⟩
  have HS5 := Lib.hid (HS4.out.call hb)
  have HC5 := Lib.hid (HC4.out.call hb)
  clear hb HS4 HC4 KC
  have c1 : w5.cell? ⟨w.heap.size, 1, none⟩ = some (.slice (some ⟨b, o, none⟩) (s + 16) cap) := HC5.out.cell 1
  have is : (s : Int) ≤ 600 := by have := HF.out; omega
  have f16 : decide ((s : Int) + 16 < 16) = false := decide_eq_false (by omega)
  go_wp2_with fail
  clear f16 c1
  refine (KP.out _).mono ?_
  rintro e w6 ⟨rfl, hb⟩
  have HS6 := Lib.hid (HS5.out.call hb)
  have HC6 := Lib.hid (HC5.out.call hb)
  clear hb HS5 HC5 KP
  have c0 : w6.cell? ⟨w.heap.size, 0, none⟩ = some (.int .i64 u) := HC6.out.cell 0
  go_wp2_with fail
  clear c0
  refine (KX.out _).mono ?_
  rintro e w7 ⟨rfl, hb⟩
  have HS7 := Lib.hid (HS6.out.call hb)
  have HC7 := Lib.hid (HC6.out.call hb)
  clear hb HS6 HC6 KX
  have c0 : w7.cell? ⟨w.heap.size, 0, none⟩ = some (.int .i64 u) := HC7.out.cell 0
  go_wp2_with fail
  clear c0
  refine (KK.out _ HS7.out.tab).mono ?_
  rintro e w8 ⟨rfl, hb⟩
  have HS8 := Lib.hid (HS7.out.call hb)
  have HC8 := Lib.hid (HC7.out.call hb)
  clear hb HS7 HC7 KK
  go_wp2_with (refine wpList_storeA rfl 23 (.tmp 15) (.tmp 75) rfl w8.heap.size (bvA kk) rfl rfl 23 _ (BB.new w8 _ (List.replicate 32 0)) (key_sz _ HKL.out) (key_old _ HKL.out) (bvA_one _) ?_)
  intro w9 h9 hg9
  have hb9 : Below w8.heap.size w8 w9 := grown_below ((Below.refl _ _).alloc (Nat.le_refl _) _) hg9 (Nat.le_refl _) (by simp)
  have HK9 : Hid (BB w9 w8.heap.size 23 kk) := Lib.hid h9
  have HS9 := Lib.hid (HS8.out.call hb9)
  have HC9 := Lib.hid (HC8.out.call hb9)
  clear h9 hg9 hb9 HS8 HC8
  generalize w8.heap.size = gk at *
  have c1 : w9.cell? ⟨w.heap.size, 1, none⟩ = some (.slice (some ⟨b, o, none⟩) (s + 16) cap) := HC9.out.cell 1
  have f0 : IntKind.i64.wrap (((s + 16 : Nat) : Int) - 16) = (s : Int) := by rw [IntWalk.i64_in _ (by omega)]; omega
  have f0' : IntKind.i64.wrap (s : Int) = (s : Int) := IntWalk.i64_in _ (by omega)
  have f0'' : IntKind.i64.wrap ((s : Int) + 16 - 16) = (s : Int) := by rw [IntWalk.i64_in _ (by omega)]; omega
  have f5 : decide ((0 : Int) ≤ (s : Int)) = true := decide_eq_true (by omega)
  have i1 : (s : Int) ≤ (cap : Int) := by have := HcapM.out; omega
  have HZA := Lib.hid (HK9.out.rdb (by rw [HKL.out]; unfold maxLen; omega))
  go_wp2_with (refine wpList_appZ32 rfl (.tmp 83) (.const (.int .i64 12)) rfl gk kk HKL.out HZA.out rfl rfl ?_)
  intro c10 w10 ho10 hb10
  clear c1 f0 f0' f0'' f5 i1 HZA
  have HO10 := Lib.hid ho10
  have HE10 := Lib.hid hb10
  clear ho10 hb10
  have HL1 : Hid ((kk ++ zN).length + (be8 (p : Nat)).length ≤ 140737488355328) := Lib.hid (by rw [List.length_append, HKL.out, zN_len, be8_len]; decide)
  have HPP : Hid ((kk ++ zN ++ be8 (p : Nat)).length = 52) := Lib.hid (by rw [List.length_append, List.length_append, HKL.out, zN_len, be8_len])
  obtain ⟨P0, hP0⟩ : ∃ P, kk ++ zN = P := ⟨_, rfl⟩
  rw [hP0] at HO10 HL1 HPP HTG
  clear hP0
  go_wp2_with fail
  refine (number9_any (p : Nat) _).mono ?_
  rintro e w11 ⟨v11, rfl, ho11, hb11⟩
  obtain ⟨a11, c11, rfl, -, -⟩ := ho11.form
  have HO10b := Lib.hid (HO10.out.below hb11)
  have HE11 := Lib.hid (HE10.out.trans (hb11.mono HE10.out.size))
  have HO11 := Lib.hid ho11
  clear ho11 hb11 HO10 HE10
  go_wp2_with (refine wpList_appB rfl (.tmp 84) (.tmp 87) rfl w9.heap.size _ P0 (be8 (p : Nat)) a11 c11 rfl HO10b.out rfl HO11.out.rdOf HO11.out.nilCap HL1.out HE11.out.size ?_)
  intro v12 w12 ho12 hg12
  obtain ⟨P, hPe⟩ : ∃ P, P0 ++ be8 (p : Nat) = P := ⟨_, rfl⟩
  rw [hPe] at ho12 HTG HPP
  clear hPe
  obtain ⟨a12, c12, rfl, -, -⟩ := ho12.form
  have HO12 := Lib.hid ho12
  have HE12 := Lib.hid (HE11.out.trans (hg12.below (fun k hk => HO10b.out.base k hk) HE11.out.size))
  clear ho12 hg12 HO10b HO11 HE11 HL1
  have HL2 : Hid (P.length + hd.length ≤ 140737488355328) := Lib.hid (by rw [HPP.out, ← HP.out]; have := HF.out; omega)
  have HRH : Hid (RdV w12 (.slice ah p ch) hd) := Lib.hid ((HH.out.call HS9.out.below).call HE12.out)
  go_wp2_with (obtain ⟨ra, rc, he, r1, r2, r3, r4⟩ := HRH.out.form; injection he with e1 e2 e3; subst e1; subst e3; clear e2; refine wpList_appB rfl (.tmp 88) (.tmp 89) rfl w9.heap.size _ P hd ah ch rfl HO12.out (by rw [← HP.out]; rfl) r1 r4 HL2.out HE12.out.size ?_; intro v13 w13 ho13 hg13; refine Hid.out ?_)
  refine Lib.hid ?_
  have HP2L : Hid ((P ++ hd).length = 52 + p) := Lib.hid (by rw [List.length_append, HPP.out, ← HP.out])
  obtain ⟨P2, hP2⟩ : ∃ P2, P ++ hd = P2 := ⟨_, rfl⟩
  rw [hP2] at ho13 HTG HP2L
  clear hP2
  obtain ⟨a13, c13, rfl, -, -⟩ := ho13.form
  have HO13 := Lib.hid ho13
  have HE13 := Lib.hid (HE12.out.trans (hg13.below (fun k hk => HO12.out.base k hk) HE12.out.size))
  clear ho13 hg13 HO12 HE12 HRH HL2 r1 r2 r3 r4
  have HTK : Hid ((c.take s).length = s) := Lib.hid (by rw [List.length_take, ← HM.out]; omega)
  have HL3 : Hid (P2.length + (c.take s).length ≤ 140737488355328) := Lib.hid (by rw [HP2L.out, HTK.out]; have := HF.out; omega)
  have HRC : Hid (RdV w13 (.slice (some ⟨b, o, none⟩) s cap) (c.take s)) := Lib.hid ((((HL.out.cut s (by omega)).call HS9.out.below)).call HE13.out)
  go_wp2_with (obtain ⟨ra, rc, he, r1, r2, r3, r4⟩ := HRC.out.form; injection he with e1 e2 e3; subst e1; subst e3; clear e2; refine wpList_appB rfl (.tmp 90) (.tmp 91) rfl w9.heap.size _ P2 (c.take s) (some ⟨b, o, none⟩) cap rfl HO13.out (by rw [HTK.out]; rfl) r1 r4 HL3.out HE13.out.size ?_; intro v14 w14 ho14 hg14; refine Hid.out ?_)
  refine Lib.hid ?_
  have HP3L : Hid ((P2 ++ c.take s).length = 52 + p + s) := Lib.hid (by rw [List.length_append, HP2L.out, HTK.out])
  obtain ⟨P3, hP3⟩ : ∃ P3, P2 ++ c.take s = P3 := ⟨_, rfl⟩
  rw [hP3] at ho14 HTG HP3L
  clear hP3
  obtain ⟨a14, c14, rfl, -, -⟩ := ho14.form
  have HO14 := Lib.hid ho14
  have HE14 := Lib.hid (HE13.out.trans (hg14.below (fun k hk => HO13.out.base k hk) HE13.out.size))
  clear ho14 hg14 HO13 HE13 HRC HL3 r1 r2 r3 r4
  have HS14 := Lib.hid (HS9.out.call HE14.out)
  have HC14 := Lib.hid (HC9.out.call HE14.out)
  have hML : P3.length ≤ 1152921504606840000 := by rw [HP3L.out]; have := HF.out; omega
  obtain ⟨D, hD⟩ : ∃ D, tagS [116, 97, 103] P3 = D := ⟨_, rfl⟩
  have HDL : Hid (D.length = 32) := Lib.hid (by rw [← hD, tagS_len])
  have hc := Tagged_any ⟨#[116, 97, 103]⟩ a14 c14 P3 w14 HS14.out.tab HO14.out.rdOf HO14.out.caps.1 HO14.out.caps.2 (by decide) hML
  rw [show tagS (ByteArray.mk #[116, 97, 103]).data.toList P3 = D from hD] at hc
  rw [hD] at HTG
  have HC := Lib.hid hc
  clear hc hML hD HO14 HE14 HS9 HC9 HK9
  generalize P3.length = nI at *
  go_wp2_with (go_at_call 21; refine HC.out.mono ?_; rintro e w15 ⟨rfl, hb⟩; refine Hid.out ?_)
  refine Lib.hid ?_
  have HS15 := Lib.hid (HS14.out.call hb)
  have HC15 := Lib.hid (HC14.out.call hb)
  clear hb HS14 HC14 HC
  go_wp2_with (refine wpList_storeA rfl 46 (.tmp 18) (.tmp 94) rfl w15.heap.size (bvA D) rfl rfl 46 _ (BB.new w15 _ (List.replicate 32 0)) (by rw [bvA_size, HDL.out]; kernel_rfl) (by rw [bvA_size, bvA_size, HDL.out, List.length_replicate]) (bvA_one _) ?_)
  intro w16 h16 hg16
  have hb16 : Below w15.heap.size w15 w16 := grown_below ((Below.refl _ _).alloc (Nat.le_refl _) _) hg16 (Nat.le_refl _) (by simp)
  have HS16 := Lib.hid (HS15.out.call hb16)
  have HC16 := Lib.hid (HC15.out.call hb16)
  have v1 := RdV.str (w := w16.drew) (RdV.tail9 (HL.out.call HS16.out.below.drew) HcapM.out)
  have v2 := RdV.str (w := w16.drew) (RdV.head9 h16 HDL.out)
  clear h16 hg16 hb16 HS15 HC15
  generalize w15.heap.size = gd at *
  have hst := str_beq (D.take 16) (c.drop s)
  obtain ⟨t1, q1⟩ : ∃ z, (⟨(c.drop s).toArray⟩ : ByteArray) = z := ⟨_, rfl⟩
  obtain ⟨t2, q2⟩ : ∃ z, (⟨(D.take 16).toArray⟩ : ByteArray) = z := ⟨_, rfl⟩
  rw [q1, q2] at hst
  rw [q1] at v1
  rw [q2] at v2
  obtain ⟨bb, hbb⟩ : ∃ bb, (D.take 16 == c.drop s) = bb := ⟨_, rfl⟩
  have HOP : tagged16 kk zN hd c = bb := by
    rw [HTG.out, ← hbb, Bool.eq_iff_iff, beq_iff_eq, beq_iff_eq]
    exact eq_comm
  rw [hbb] at hst
  rw [HOP] at HUE HUX
  clear q1 q2 hbb HOP
  have c1 : w16.cell? ⟨w.heap.size, 1, none⟩ = some (.slice (some ⟨b, o, none⟩) (s + 16) cap) := HC16.out.cell 1
  have c1' : w16.drew.cell? ⟨w.heap.size, 1, none⟩ = some (.slice (some ⟨b, o, none⟩) (s + 16) cap) := HC16.out.cell 1
  have HcM := HcapM.out
  have i1 : (s : Int) ≤ (cap : Int) := by omega
  have i3 : (s : Int) ≤ (s : Int) + 16 := by omega
  have i5 : ¬ cap = s := by omega
  have i6 : s + 16 - s = 16 := by omega
  go_wp2_with fail
  go_still (by kernel_rfl)
  clear v1 v2 c1 c1' hst i1 i3 i5 i6 HcM
  have hue := HUE.out
  have hux := HUX.out
  cases bb
  · rw [if_neg (by decide)] at hue hux
    subst hue
    subst hux
    go_wp2_with fail
    go_ret
    exact ⟨rfl, HS16.out.below.drew⟩
  · rw [if_pos rfl] at hue hux
    subst hue
    subst hux
    go_wp2_with fail
    go_ret
    exact ⟨rfl, HS16.out.below.drew⟩
end Go.Proofs.YtpnemdhbdncknaaDoor
