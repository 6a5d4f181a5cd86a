/-
  The walks of WrapOpens and WrapBothSides (chartroomlaw09).
-/
import Derived.Test.YtpnemdhbdncknaaDoorIn
import Derived.Test.YtpnemdhbdncknaaDoorIb
import Derived.Test.YtpnemdhbdncknaaDoorPkM
import Derived.Test.YtpnemdhbdncknaaDoorPkS
import Derived.Deep.RegionHeld3
namespace Go.Proofs.YtpnemdhbdncknaaDoor
open Go.RowKit
set_option linter.unusedVariables false
set_option linter.unusedSimpArgs false

set_option maxRecDepth 100000 in
set_option maxHeartbeats 4000000 in
theorem opens_walk9 (x0 : Int) (hx1 : -9223372036854775808 ≤ x0) (hx2 : x0 < 9223372036854775808) (K : List UInt8) (hK : K.length = 32) (hd b : List UInt8) (ah : Option Addr) (p ch : Nat) (a : Option Addr) (m cap : Nat) (w : World) (hT : Tab w) (hh : RdV w (.slice ah p ch) hd) (hl : RdV w (.slice a m cap) b) (hp2 : p < 140737488355328) (hm2 : m < 140737488355328) :
    Calls Tryd.prog 3 #[.int .i64 x0, .agg (bvA K), .slice ah p ch, .slice a m cap] w fun e w' => e = .returned (.bool true) ∧ Below w.heap.size w w' := by
  have HSZ := Lib.hid (key_sz K hK)
  have KF := Lib.hid (fun W g T h => few2_any ah p ch a m cap (by omega) (by omega) g W T h)
  have KY := Lib.hid (fun W => rKey x0 hx1 hx2 W)
  have hxb := keyN_bd x0
  obtain ⟨x, hx⟩ : ∃ x, keyN x0 = x := ⟨_, rfl⟩
  rw [hx] at KY hxb
  have HXB := Lib.hid hxb
  have KP := Lib.hid (fun W => public_ok x hxb.1 hxb.2 W)
  have HP := Lib.hid hh.len
  have HM := Lib.hid hl.len
  have HH := Lib.hid hh
  have HL := Lib.hid hl
  have HKL := Lib.hid hK
  obtain ⟨w1, hw1⟩ : ∃ w1, w1 = w.alloc (.cells (bvA K) 23) := ⟨_, rfl⟩
  have HS1 : Hid (SnW w w1) := Lib.hid (hw1 ▸ (SnW.mk (Below.refl _ _) hT).alloc _)
  have HK1 : Hid (BB w1 w.heap.size 23 K) := Lib.hid (hw1 ▸ BB.new w _ _)
  clear hT hh hl hK hx hxb hx1 hx2
  go_enter Tryd.func3, Tryd.ntmps3
  go_wp2_with fail
  rw [← hw1]
  clear hw1
  refine (sane9_any _ HS1.out.tab).mono ?_
  rintro e w2 ⟨rfl, hb⟩
  have HG3 := Lib.hid (CB.new w2 24 #[.slice ah p ch, .slice a m cap])
  have HS3 := Lib.hid ((HS1.out.call hb).alloc (.cells #[.slice ah p ch, .slice a m cap] 24))
  have HK3 : Hid (BB (w2.alloc (.cells #[.slice ah p ch, .slice a m cap] 24)) w.heap.size 23 K) := Lib.hid ((HK1.out.below hb HK1.out.lt).alloc _)
  clear hb HS1 HK1
  go_wp2_with fail
  refine (KF.out _ _ _ HG3.out).mono ?_
  rintro e w3 ⟨rfl, hw3⟩
  rw [← hw3] at HS3 HK3
  clear hw3 HG3 KF
  by_cases hf : p + m ≤ 600
  rotate_left
  · rw [decide_eq_false hf]
    clear hf
    go_wp2_with fail
    go_ret
    exact ⟨rfl, HS3.out.below⟩
  rw [decide_eq_true hf]
  have HPL : Hid (hd.length ≤ 70368744100000) := Lib.hid (by rw [← HP.out]; omega)
  have HBL : Hid (b.length ≤ 65536) := Lib.hid (by rw [← HM.out]; omega)
  have HF := Lib.hid hf
  clear hf hp2 hm2
  obtain ⟨u, hu⟩ : ∃ u, wUn K = u := ⟨_, rfl⟩
  obtain ⟨X, hX⟩ : ∃ X, wrB ((pubS x : Nat) : Int) K hd b = X := ⟨_, rfl⟩
  obtain ⟨n1, n2, n3, n4, n5, n6⟩ := unwraps HXB.out.1 HXB.out.2 K hd HBL.out
  rw [hu] at n2 n4 n5 n6
  rw [hX] at n3 n5 n6
  rw [← HM.out] at n3 n4
  have KU := Lib.hid (fun W h1 h2 h3 => Wrap_any ((pubS x : Nat) : Int) K HKL.out hd b ah p ch a m cap W h1 h2 h3 HPL.out)
  rw [n1, n2, hX] at KU
  have KN := Lib.hid (fun a5 c5 W h1 h2 h3 => Unwrap_any ((x : Nat) : Int) hd X ((u : Nat) : Int) ah p ch a5 (m + 16) c5 W h1 h2 h3 HPL.out)
  rw [n5, n6] at KN
  have KC := Lib.hid (fun a5 c5 W => wCheck_any ((u : Nat) : Int) a5 (m + 16) c5 W)
  rw [n4] at KC
  have HN := Lib.hid n3
  unfold wrV at KN KC
  clear hu hX n1 n2 n3 n4 n5 n6
  generalize pubS x = pk at *
  go_wp2_with (first
    | (go_at_call 10; with_reducible refine (KY.out _).mono ?_; rintro e w4 ⟨rfl, hw⟩; rw [hw]; clear hw w4)
    | (go_at_call 11; refine (KP.out _).mono ?_; rintro e w4 ⟨rfl, hb⟩; refine Hid.out ?_))
  refine Lib.hid ?_
  have HS4 := Lib.hid (HS3.out.call hb)
  have HK4 := Lib.hid (HK3.out.below hb HK3.out.lt)
  clear hb HS3 HK3 KY KP
  go_wp2_with (refine wpList_load_row rfl 23 (.tmp 5) rfl w.heap.size rfl _ (bvA K) (0, 0) _ HK4.out Tryd.underlying23 rfl HSZ.out ?_)
  refine (KU.out _ HS4.out.tab (HH.out.call HS4.out.below) (HL.out.call HS4.out.below)).mono ?_
  rintro e w5 hA
  obtain ⟨a5, c5, rfl, ho5, hb⟩ := hA.open
  rw [HN.out] at ho5 ⊢
  have HS5 := Lib.hid ((HS4.out.call hb).alloc (.cells #[.int .i64 (u : Nat), .slice a5 (m + 16) c5] 32))
  have HC5 := Lib.hid (CB.new w5 32 #[.int .i64 (u : Nat), .slice a5 (m + 16) c5])
  have HK5 : Hid (BB (w5.alloc (.cells #[.int .i64 (u : Nat), .slice a5 (m + 16) c5] 32)) w.heap.size 23 K) := Lib.hid ((HK4.out.below hb HK4.out.lt).alloc _)
  have HR5 := Lib.hid (ho5.rdv.call ((Below.refl w5.heap.size w5).alloc (Nat.le_refl _) (.cells #[.int .i64 (u : Nat), .slice a5 (m + 16) c5] 32)))
  clear hA ho5 hb HS4 HK4 KU
  go_wp2_with fail
  refine (KN.out _ _ _ HS5.out.tab (HH.out.call HS5.out.below) HR5.out).mono ?_
  rintro e w6 hA
  obtain ⟨a6, c6, rfl, ho6, hb⟩ := hA.open
  rw [← HM.out] at ho6 ⊢
  have HS6 := Lib.hid (HS5.out.call hb)
  have HC6 := Lib.hid (HC5.out.call hb)
  have HR6 := Lib.hid ho6.rdv
  clear hA ho6 hb HS5 HC5 HK5 HR5 KN
  have c0 : w6.cell? ⟨w5.heap.size, 0, none⟩ = some (.int .i64 (u : Nat)) := HC6.out.cell 0
  have c1 : w6.cell? ⟨w5.heap.size, 1, none⟩ = some (.slice a5 (m + 16) c5) := HC6.out.cell 1
  go_wp2_with fail
  clear c0 c1
  refine (KC.out _ _ _).mono ?_
  rintro e w7 ⟨rfl, hb⟩
  have HS7 := Lib.hid (HS6.out.call hb)
  have c1 : w7.cell? ⟨w5.heap.size, 1, none⟩ = some (.slice a5 (m + 16) c5) := (HC6.out.call hb).cell 1
  have h6 := (HR6.out.call hb).str
  have h7 := (HL.out.call HS7.out.below).str
  clear hb HS6 HC6 HR6 KC
  obtain ⟨s1, q1⟩ : ∃ s, (⟨b.toArray⟩ : ByteArray) = s := ⟨_, rfl⟩
  obtain ⟨s2, q2⟩ : ∃ s, (⟨b.toArray⟩ : ByteArray) = s := ⟨_, rfl⟩
  have r12 : (s1.toList == s2.toList) = true := by rw [← q1, ← q2, str_beq]; exact beq_self_eq_true _
  rw [q1] at h6
  rw [q2] at h7
  clear q1 q2

  have im : (m : Int) ≤ 600 := by have := HF.out; omega
  have iw : IntKind.i64.wrap ((m : Int) + 16) = (m : Int) + 16 := IntWalk.i64_in _ (by omega)
  go_wp2_with fail
  go_ret
  exact ⟨rfl, HS7.out.below⟩

set_option maxRecDepth 100000 in
set_option maxHeartbeats 4000000 in
theorem sides_walk9 (x0 : Int) (hx1 : -9223372036854775808 ≤ x0) (hx2 : x0 < 9223372036854775808) (K : List UInt8) (hK : K.length = 32) (hd b : List UInt8) (ah : Option Addr) (p ch : Nat) (a : Option Addr) (m cap : Nat) (w : World) (hT : Tab w) (hh : RdV w (.slice ah p ch) hd) (hl : RdV w (.slice a m cap) b) (hp2 : p < 140737488355328) (hm2 : m < 140737488355328) :
    Calls Tryd.prog 4 #[.int .i64 x0, .agg (bvA K), .slice ah p ch, .slice a m cap] w fun e w' => e = .returned (.bool true) ∧ Below w.heap.size w w' := by
  have HSZ := Lib.hid (key_sz K hK)
  have KF := Lib.hid (fun W g T h => few2_any ah p ch a m cap (by omega) (by omega) g W T h)
  have KY := Lib.hid (fun W => rKey x0 hx1 hx2 W)
  have hxb := keyN_bd x0
  obtain ⟨x, hx⟩ : ∃ x, keyN x0 = x := ⟨_, rfl⟩
  rw [hx] at KY hxb
  have HXB := Lib.hid hxb
  have KP := Lib.hid (fun W => public_ok x hxb.1 hxb.2 W)
  have HP := Lib.hid hh.len
  have HM := Lib.hid hl.len
  have HH := Lib.hid hh
  have HL := Lib.hid hl
  have HKL := Lib.hid hK
  obtain ⟨w1, hw1⟩ : ∃ w1, w1 = w.alloc (.cells (bvA K) 23) := ⟨_, rfl⟩
  have HS1 : Hid (SnW w w1) := Lib.hid (hw1 ▸ (SnW.mk (Below.refl _ _) hT).alloc _)
  have HK1 : Hid (BB w1 w.heap.size 23 K) := Lib.hid (hw1 ▸ BB.new w _ _)
  clear hT hh hl hK hx hxb hx1 hx2
  go_enter Tryd.func4, Tryd.ntmps4
  go_wp2_with fail
  rw [← hw1]
  clear hw1
  refine (sane9_any _ HS1.out.tab).mono ?_
  rintro e w2 ⟨rfl, hb⟩
  have HG3 := Lib.hid (CB.new w2 24 #[.slice ah p ch, .slice a m cap])
  have HS3 := Lib.hid ((HS1.out.call hb).alloc (.cells #[.slice ah p ch, .slice a m cap] 24))
  have HK3 : Hid (BB (w2.alloc (.cells #[.slice ah p ch, .slice a m cap] 24)) w.heap.size 23 K) := Lib.hid ((HK1.out.below hb HK1.out.lt).alloc _)
  clear hb HS1 HK1
  go_wp2_with fail
  refine (KF.out _ _ _ HG3.out).mono ?_
  rintro e w3 ⟨rfl, hw3⟩
  rw [← hw3] at HS3 HK3
  clear hw3 HG3 KF
  by_cases hf : p + m ≤ 600
  rotate_left
  · rw [decide_eq_false hf]
    clear hf
    go_wp2_with fail
    go_ret
    exact ⟨rfl, HS3.out.below⟩
  rw [decide_eq_true hf]
  have HPL : Hid (hd.length ≤ 70368744100000) := Lib.hid (by rw [← HP.out]; omega)
  have HBL : Hid (b.length ≤ 65536) := Lib.hid (by rw [← HM.out]; omega)
  have HF := Lib.hid hf
  clear hf hp2 hm2
  obtain ⟨u, hu⟩ : ∃ u, wUn K = u := ⟨_, rfl⟩
  obtain ⟨X, hX⟩ : ∃ X, wrB ((pubS x : Nat) : Int) K hd b = X := ⟨_, rfl⟩
  obtain ⟨n1, n2, n3, n4, n5, n6⟩ := unwraps HXB.out.1 HXB.out.2 K hd HBL.out
  rw [hu] at n2 n4 n5 n6
  rw [hX] at n3 n5 n6
  rw [← HM.out] at n3 n4
  have KU := Lib.hid (fun W h1 h2 h3 => Wrap_any ((pubS x : Nat) : Int) K HKL.out hd b ah p ch a m cap W h1 h2 h3 HPL.out)
  rw [n1, n2, hX] at KU
  have KN := Lib.hid (fun a5 c5 W h1 h2 h3 => Unwrap_any ((x : Nat) : Int) hd X ((u : Nat) : Int) ah p ch a5 (m + 16) c5 W h1 h2 h3 HPL.out)
  rw [n5, n6] at KN
  have KC := Lib.hid (fun a5 c5 W => wCheck_any ((u : Nat) : Int) a5 (m + 16) c5 W)
  rw [n4] at KC
  have HN := Lib.hid n3
  unfold wrV at KN KC
  have KD := Lib.hid (fun W h => DScalar_any K HKL.out (ByteArray.mk #[119, 114, 97, 112]) W h (by decide))
  rw [show scS K (ByteArray.mk #[119, 114, 97, 112]) = wR K from rfl] at KD
  have KB := Lib.hid (fun W => wBase K W)
  have hbp := both_pow HXB.out.1 HXB.out.2 K
  have he2 := expR_two (u := ((pubS x : Nat) : Int)) (k := wR K) (chkR_ok (pubS_el x)) (wR_bd K).2
  have KX1 := Lib.hid (fun W => gExp_any ((pubS x : Nat) : Int) (wR K : Nat) W)
  have KX2 := Lib.hid (fun W => gExp_any ((wUn K : Nat) : Int) (x : Nat) W)
  rw [← hbp, he2] at KX2
  rw [he2] at KX1
  have KK := Lib.hid (fun W h => key9_any ((pubS x : Nat) : Int) (wUn K : Nat) (expR ((pubS x : Nat) : Int) (wR K : Nat)).1 W h)
  rw [show wK ((pubS x : Nat) : Int) (wUn K : Nat) (expR ((pubS x : Nat) : Int) (wR K : Nat)).1 = wKey ((pubS x : Nat) : Int) K from rfl] at KK
  have KE := Lib.hid (fun W h1 h2 h3 => Seal_le (wKey ((pubS x : Nat) : Int) K) zN (wKey_len _ K) zN_len hd b ah p ch a m cap W h1 h2 h3 HPL.out HBL.out)
  rw [show sealC (wKey ((pubS x : Nat) : Int) K) zN hd b = X from (by rw [← hX, (wr_ok (chkR_ok (pubS_el x)) K hd HBL.out).2.2])] at KE
  rw [hu] at KB KX2 KK
  obtain ⟨v, hv⟩ : ∃ v, (expR ((pubS x : Nat) : Int) (wR K : Nat)).1 = v := ⟨_, rfl⟩
  rw [hv] at KX1 KX2 KK
  obtain ⟨kk, hkk⟩ : ∃ kk, wKey ((pubS x : Nat) : Int) K = kk := ⟨_, rfl⟩
  rw [hkk] at KK KE
  clear hu hX n1 n2 n3 n4 n5 n6 hbp he2 hv hkk KN KC
  generalize pubS x = pk at *
  generalize wR K = r at *
  go_wp2_with (first
    | (go_at_call 10; with_reducible refine (KY.out _).mono ?_; rintro e w4 ⟨rfl, hw⟩; rw [hw]; clear hw w4)
    | (go_at_call 11; refine (KP.out _).mono ?_; rintro e w4 ⟨rfl, hb⟩; refine Hid.out ?_))
  refine Lib.hid ?_
  have HS4 := Lib.hid (HS3.out.call hb)
  have HK4 := Lib.hid (HK3.out.below hb HK3.out.lt)
  clear hb HS3 HK3 KY KP
  go_wp2_with (refine wpList_load_row rfl 23 (.tmp 5) rfl w.heap.size rfl _ (bvA K) (0, 0) _ HK4.out Tryd.underlying23 rfl HSZ.out ?_)
  refine (KU.out _ HS4.out.tab (HH.out.call HS4.out.below) (HL.out.call HS4.out.below)).mono ?_
  rintro e w5 hA
  obtain ⟨a5, c5, rfl, ho5, hb⟩ := hA.open
  rw [HN.out] at ho5 ⊢
  have HS5 := Lib.hid ((HS4.out.call hb).alloc (.cells #[.int .i64 (u : Nat), .slice a5 (m + 16) c5] 32))
  have HC5 := Lib.hid (CB.new w5 32 #[.int .i64 (u : Nat), .slice a5 (m + 16) c5])
  have HK5 : Hid (BB (w5.alloc (.cells #[.int .i64 (u : Nat), .slice a5 (m + 16) c5] 32)) w.heap.size 23 K) := Lib.hid ((HK4.out.below hb HK4.out.lt).alloc _)
  have HR5 := Lib.hid (ho5.rdv.call ((Below.refl w5.heap.size w5).alloc (Nat.le_refl _) (.cells #[.int .i64 (u : Nat), .slice a5 (m + 16) c5] 32)))
  clear hA ho5 hb HS4 HK4 KU
  go_wp2_with (refine wpList_load_row rfl 23 (.tmp 5) rfl w.heap.size rfl _ (bvA K) (0, 0) _ HK5.out Tryd.underlying23 rfl HSZ.out ?_)
  refine (KD.out _ HS5.out.tab).mono ?_
  rintro e w6 ⟨rfl, hb⟩
  have HS6 := Lib.hid (HS5.out.call hb)
  have HC6 := Lib.hid (HC5.out.call hb)
  have HR6 := Lib.hid (HR5.out.call hb)
  clear hb HS5 HC5 HK5 HR5 KD
  go_wp2_with fail
  refine (KB.out _).mono ?_
  rintro e w7 ⟨rfl, hb⟩
  have HS7 := Lib.hid (HS6.out.call hb)
  have HC7 := Lib.hid (HC6.out.call hb)
  have HR7 := Lib.hid (HR6.out.call hb)
  clear hb HS6 HC6 HR6 KB
  go_wp2_with fail
  refine (KX1.out _).mono ?_
  rintro e w8 ⟨rfl, hb⟩
  have HS8 := Lib.hid (HS7.out.call hb)
  have HC8 := Lib.hid (HC7.out.call hb)
  have HR8 := Lib.hid (HR7.out.call hb)
  clear hb HS7 HC7 HR7 KX1
  have c0 : w8.cell? ⟨w5.heap.size, 0, none⟩ = some (.int .i64 (u : Nat)) := HC8.out.cell 0
  go_wp2_with fail
  clear c0
  refine (KX2.out _).mono ?_
  rintro e w9 ⟨rfl, hb⟩
  have HS9 := Lib.hid (HS8.out.call hb)
  have HC9 := Lib.hid (HC8.out.call hb)
  have HR9 := Lib.hid (HR8.out.call hb)
  clear hb HS8 HC8 HR8 KX2
  have c0 : w9.cell? ⟨w5.heap.size, 0, none⟩ = some (.int .i64 (u : Nat)) := HC9.out.cell 0
  go_wp2_with fail
  clear c0
  refine (KK.out _ HS9.out.tab).mono ?_
  rintro e w10 ⟨rfl, hb⟩
  have HS10 := Lib.hid (HS9.out.call hb)
  have HC10 := Lib.hid (HC9.out.call hb)
  have HR10 := Lib.hid (HR9.out.call hb)
  clear hb HS9 HC9 HR9 KK
  go_wp2_with fail
  change Calls _ _ #[.agg (bvA kk), .agg (bvA zN), _, _] _ _
  refine (KE.out _ HS10.out.tab (HH.out.call HS10.out.below) (HL.out.call HS10.out.below)).mono ?_
  rintro e w11 hA
  obtain ⟨a11, c11, rfl, ho11, hb⟩ := hA.open
  have HS11 := Lib.hid (HS10.out.call hb)
  have c0 : w11.cell? ⟨w5.heap.size, 0, none⟩ = some (.int .i64 (u : Nat)) := (HC10.out.call hb).cell 0
  have c1 : w11.cell? ⟨w5.heap.size, 1, none⟩ = some (.slice a5 (m + 16) c5) := (HC10.out.call hb).cell 1
  have h6 := ho11.rdv.str
  have h7 := (HR10.out.call hb).str
  clear hA hb ho11 HS10 HC10 HR10 KE
  obtain ⟨s1, q1⟩ : ∃ s, (⟨X.toArray⟩ : ByteArray) = s := ⟨_, rfl⟩
  obtain ⟨s2, q2⟩ : ∃ s, (⟨X.toArray⟩ : ByteArray) = s := ⟨_, rfl⟩
  have r12 : (s1.toList == s2.toList) = true := by rw [← q1, ← q2, str_beq]; exact beq_self_eq_true _
  rw [q1] at h6
  rw [q2] at h7
  clear q1 q2

  go_wp2_with fail
  go_ret
  exact ⟨rfl, HS11.out.below⟩
end Go.Proofs.YtpnemdhbdncknaaDoor
