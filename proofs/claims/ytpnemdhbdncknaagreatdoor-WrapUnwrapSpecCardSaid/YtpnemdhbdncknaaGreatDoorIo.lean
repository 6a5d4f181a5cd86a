/-
  The walks of WrapWrapSpec and WrapUnwrapSpec (chartroomlaw09).
-/
import Derived.Test.YtpnemdhbdncknaaGreatDoorIm
import Derived.Test.YtpnemdhbdncknaaGreatDoorIn
import Derived.Test.YtpnemdhbdncknaaGreatDoorPkM
import Derived.Deep.RegionHeld3
namespace Go.Proofs.YtpnemdhbdncknaaGreatDoor
open Go.RowKit
set_option linter.unusedVariables false
set_option linter.unusedSimpArgs false

theorem SnW.box {w : World} (hT : Tab w) (o : Obj) : SnW w (w.alloc o) := (SnW.mk (Below.refl _ _) hT).alloc o

set_option maxRecDepth 100000 in
set_option maxHeartbeats 4000000 in
theorem unwrapSpec_walk9 (x : Int) (hd c : List UInt8) (u : Int) (ah : Option Addr) (p ch : Nat) (a : Option Addr) (m cap : Nat) (w : World) (hT : Tab w) (hh : RdV w (.slice ah p ch) hd) (hl : RdV w (.slice a m cap) c) (hp2 : p < 140737488355328) (hm2 : m < 140737488355328) :
    Calls Tryz.prog 4 #[.int .i64 x, .slice ah p ch, wrV u (.slice a m cap)] w fun e w' => e = .returned (.bool true) ∧ Below w.heap.size w w' := by
  have KF := Lib.hid (fun W g T h => few2_any ah p ch a m cap (by omega) (by omega) g W T h)
  have KU := Lib.hid (fun W h1 h2 h3 h4 => Unwrap_any x hd c u ah p ch a m cap W h1 h2 h3 h4)
  have KR := Lib.hid (fun W h2 h3 h4 => rUnwrap_any x hd c u ah p ch a m cap W h2 h3 h4)
  unfold wrV at KU KR ⊢
  have HP := Lib.hid hh.len
  have HH := Lib.hid hh
  have HL := Lib.hid hl
  obtain ⟨X, hX⟩ : ∃ X, unX x hd u c = X := ⟨_, rfl⟩
  obtain ⟨r, hr⟩ : ∃ r, unE x hd u c = r := ⟨_, rfl⟩
  rw [hX, hr] at KU KR
  obtain ⟨w1, hw1⟩ : ∃ w1, w1 = w.alloc (.cells #[.int .i64 u, .slice a m cap] 26) := ⟨_, rfl⟩
  have HS1 : Hid (SnW w w1) := Lib.hid (hw1 ▸ SnW.box hT _)
  have HC1 : Hid (CB w1 w.heap.size 26 #[.int .i64 u, .slice a m cap]) := Lib.hid (hw1 ▸ CB.new w _ _)
  clear hT hh hl hX hr
  go_enter Tryz.func4, Tryz.ntmps4
  go_wp2_with fail
  rw [← hw1]
  clear hw1
  refine (sane9_any _ HS1.out.tab).mono ?_
  rintro e w2 ⟨rfl, hb⟩
  have HC2 := Lib.hid (HC1.out.call hb)
  have c1 : w2.cell? ⟨w.heap.size, 1, none⟩ = some (.slice a m cap) := HC2.out.cell 1
  have HG3 := Lib.hid (CB.new w2 24 #[.slice ah p ch, .slice a m cap])
  have HC3 := Lib.hid (HC2.out.alloc (.cells #[.slice ah p ch, .slice a m cap] 24))
  have HS3 := Lib.hid ((HS1.out.call hb).alloc (.cells #[.slice ah p ch, .slice a m cap] 24))
  clear hb HS1 HC1 HC2
  go_wp2_with fail
  clear c1
  refine (KF.out _ _ _ HG3.out).mono ?_
  rintro e w3 ⟨rfl, hw3⟩
  rw [← hw3] at HS3 HC3
  clear hw3 HG3 KF
  by_cases hf : p + m ≤ 600
  · rw [decide_eq_true hf]
    have HPL : Hid (hd.length ≤ 70368744100000) := Lib.hid (by rw [← HP.out]; omega)
    clear hf
    have c0 : w3.cell? ⟨w.heap.size, 0, none⟩ = some (.int .i64 u) := HC3.out.cell 0
    have c1 : w3.cell? ⟨w.heap.size, 1, none⟩ = some (.slice a m cap) := HC3.out.cell 1
    go_wp2_with fail
    clear c0 c1
    refine (KU.out _ HS3.out.tab (HH.out.call HS3.out.below) (HL.out.call HS3.out.below) HPL.out).mono ?_
    rintro e w4 hA
    obtain ⟨a4, c4, rfl, ho4, hb⟩ := hA.open
    have HS4 := Lib.hid (HS3.out.call hb)
    have HC4 := Lib.hid (HC3.out.call hb)
    have HR4 := Lib.hid ho4.rdv
    clear hA ho4 hb HS3 HC3 KU
    have c0 : w4.cell? ⟨w.heap.size, 0, none⟩ = some (.int .i64 u) := HC4.out.cell 0
    have c1 : w4.cell? ⟨w.heap.size, 1, none⟩ = some (.slice a m cap) := HC4.out.cell 1
    go_wp2_with fail
    clear c0 c1
    refine (KR.out _ (HH.out.call HS4.out.below) (HL.out.call HS4.out.below) HPL.out).mono ?_
    rintro e w5 hA
    obtain ⟨a5, c5, rfl, ho5, hb⟩ := hA.open
    have HS5 := Lib.hid (HS4.out.call hb)
    have h4 := (HR4.out.call hb).str
    have h5 := ho5.rdv.str
    clear hA ho5 hb HS4 HC4 HR4 KR
    obtain ⟨s1, q1⟩ : ∃ s, (⟨X.toArray⟩ : ByteArray) = s := ⟨_, rfl⟩
    obtain ⟨s2, q2⟩ : ∃ s, (⟨X.toArray⟩ : ByteArray) = s := ⟨_, rfl⟩
    have r12 : (s1.toList == s2.toList) = true := by rw [← q1, ← q2, str_beq]; exact beq_self_eq_true _
    rw [q1] at h4
    rw [q2] at h5
    clear q1 q2
    go_wp2_with fail
    go_ret
    exact ⟨rfl, HS5.out.below⟩
  · rw [decide_eq_false hf]
    clear hf
    go_wp2_with fail
    go_ret
    exact ⟨rfl, HS3.out.below⟩

set_option maxRecDepth 100000 in
theorem large_any (a : Option Addr) (m cap : Nat) (w : World) :
    Calls Tryz.prog 7 #[.slice a m cap] w fun e w' => e = .returned (.bool (decide (65536 < m ∧ m < 70000))) ∧ w' = w := by
  by_cases h1 : 65536 < m
  · have f1 : decide ((65536 : Int) < (m : Int)) = true := decide_eq_true (by omega)
    by_cases h2 : m < 70000
    · have f2 : decide ((m : Int) < 70000) = true := decide_eq_true (by omega)
      have HE := Lib.hid (decide_eq_true (p := 65536 < m ∧ m < 70000) ⟨h1, h2⟩)
      clear h1 h2
      go_enter Tryz.func7, Tryz.ntmps7
      go_wp2_with fail
      go_ret
      exact ⟨by rw [HE.out]; rfl, rfl⟩
    · have f2 : decide ((m : Int) < 70000) = false := decide_eq_false (by omega)
      have HE := Lib.hid (decide_eq_false (p := 65536 < m ∧ m < 70000) (by omega))
      clear h1 h2
      go_enter Tryz.func7, Tryz.ntmps7
      go_wp2_with fail
      go_ret
      exact ⟨by rw [HE.out]; rfl, rfl⟩
  · have f1 : decide ((65536 : Int) < (m : Int)) = false := decide_eq_false (by omega)
    have HE := Lib.hid (decide_eq_false (p := 65536 < m ∧ m < 70000) (by omega))
    clear h1
    go_enter Tryz.func7, Tryz.ntmps7
    go_wp2_with fail
    go_ret
    exact ⟨by rw [HE.out]; rfl, rfl⟩

set_option maxRecDepth 100000 in
set_option maxHeartbeats 8000000 in
theorem wrapSpec_walk9 (q : Int) (K : List UInt8) (hK : K.length = 32) (hd b : List UInt8) (ah : Option Addr) (p ch : Nat) (a : Option Addr) (m cap : Nat) (u : Int) (ax : Option Addr) (k cx : Nat) (w : World) (hT : Tab w) (hh : RdV w (.slice ah p ch) hd) (hl : RdV w (.slice a m cap) b) (hp2 : p < 140737488355328) (hm2 : m < 140737488355328) :
    Calls Tryz.prog 3 #[.int .i64 q, .agg (bvA K), .slice ah p ch, .slice a m cap, wrV u (.slice ax k cx)] w fun e w' => e = .returned (.bool true) ∧ Below w.heap.size w w' := by
  have HSZ := Lib.hid (key_sz K hK)
  have KF := Lib.hid (fun W g T h => few2_any ah p ch a m cap (by omega) (by omega) g W T h)
  have KG := Lib.hid (fun W g T h => few1_any ah p ch (by omega) g W T h)
  have KL := Lib.hid (fun W => large_any a m cap W)
  have KU := Lib.hid (fun W h1 h2 h3 h4 => Wrap_any q K hK hd b ah p ch a m cap W h1 h2 h3 h4)
  have KR := Lib.hid (fun W h2 h3 h4 => rWrap_any q K hK hd b ah p ch a m cap W h2 h3 h4)
  have KC := Lib.hid (fun W => wCheck_any u ax k cx W)
  have KD := Lib.hid (fun W => rCheck9_any u ax k cx W)
  have HP := Lib.hid hh.len
  have HH := Lib.hid hh
  have HL := Lib.hid hl
  obtain ⟨X, hX⟩ : ∃ X, wrB q K hd b = X := ⟨_, rfl⟩
  obtain ⟨U, hU⟩ : ∃ U, wrU q K b = U := ⟨_, rfl⟩
  obtain ⟨r, hr⟩ : ∃ r, wrE q b = r := ⟨_, rfl⟩
  obtain ⟨y, hy⟩ : ∃ y, wcE u k = y := ⟨_, rfl⟩
  rw [hX, hU, hr] at KU KR
  rw [hy] at KC KD
  obtain ⟨n, hn⟩ : ∃ n, X.length = n := ⟨_, rfl⟩
  have HN := Lib.hid hn
  have KS := Lib.hid (fun a4 a5 c4 c5 W h1 h2 => same9_any U a4 a5 n n c4 c5 X W h1 h2)
  unfold wrV at KC KD KS ⊢
  obtain ⟨w1, hw1⟩ : ∃ w1, w1 = (w.alloc (.cells (bvA K) 23)).alloc (.cells #[.int .i64 u, .slice ax k cx] 26) := ⟨_, rfl⟩
  have HS1 : Hid (SnW w w1) := Lib.hid (hw1 ▸ (SnW.box hT _).alloc _)
  have HK1 : Hid (BB w1 w.heap.size 23 K) := Lib.hid (hw1 ▸ (BB.new w _ _).alloc _)
  have HX1 : Hid (CB w1 (w.heap.size + 1) 26 #[.int .i64 u, .slice ax k cx]) := Lib.hid (hw1 ▸ CB.at _ _ (alloc_size _ _))
  clear hT hh hl hX hU hr hy hn hK
  go_enter Tryz.func3, Tryz.ntmps3
  go_wp2_with fail
  rw [← hw1]
  clear hw1
  refine (sane9_any _ HS1.out.tab).mono ?_
  rintro e w2 ⟨rfl, hb⟩
  have HG3 := Lib.hid (CB.new w2 24 #[.slice ah p ch, .slice a m cap])
  have HS3 := Lib.hid ((HS1.out.call hb).alloc (.cells #[.slice ah p ch, .slice a m cap] 24))
  have HK3 : Hid (BB (w2.alloc (.cells #[.slice ah p ch, .slice a m cap] 24)) w.heap.size 23 K) := Lib.hid ((HK1.out.below hb HK1.out.lt).alloc _)
  have HX3 := Lib.hid ((HX1.out.call hb).alloc (.cells #[.slice ah p ch, .slice a m cap] 24))
  clear hb HS1 HK1 HX1
  go_wp2_with fail
  refine (KF.out _ _ _ HG3.out).mono ?_
  rintro e w3 ⟨rfl, hw3⟩
  rw [← hw3] at HS3 HK3 HX3
  clear hw3 HG3 KF
  by_cases hf : p + m ≤ 600
  · rw [decide_eq_true hf]
    have HPL : Hid (hd.length ≤ 70368744100000) := Lib.hid (by rw [← HP.out]; omega)
    clear hf KG KL
    go_wp2_with (refine wpList_load_row rfl 23 (.tmp 6) rfl w.heap.size rfl _ (bvA K) (0, 0) _ HK3.out Tryz.underlying23 rfl HSZ.out ?_)
    refine (KU.out _ HS3.out.tab (HH.out.call HS3.out.below) (HL.out.call HS3.out.below) HPL.out).mono ?_
    rintro e w4 hA
    obtain ⟨a4, c4, rfl, ho4, hb⟩ := hA.open
    rw [HN.out] at ho4 ⊢
    have HS4 := Lib.hid ((HS3.out.call hb).alloc (.cells #[.int .i64 U, .slice a4 n c4] 26))
    have HA4 := Lib.hid (CB.new w4 26 #[.int .i64 U, .slice a4 n c4])
    have HX4 := Lib.hid ((HX3.out.call hb).alloc (.cells #[.int .i64 U, .slice a4 n c4] 26))
    have HK4 : Hid (BB (w4.alloc (.cells #[.int .i64 U, .slice a4 n c4] 26)) w.heap.size 23 K) := Lib.hid ((HK3.out.below hb HK3.out.lt).alloc _)
    have HR4 := Lib.hid (ho4.rdv.call ((Below.refl w4.heap.size w4).alloc (Nat.le_refl _) (.cells #[.int .i64 U, .slice a4 n c4] 26)))
    clear hA ho4 hb HS3 HX3 HK3 KU
    go_wp2_with (refine wpList_load_row rfl 23 (.tmp 6) rfl w.heap.size rfl _ (bvA K) (0, 0) _ HK4.out Tryz.underlying23 rfl HSZ.out ?_)
    refine (KR.out _ (HH.out.call HS4.out.below) (HL.out.call HS4.out.below) HPL.out).mono ?_
    rintro e w5 hA
    obtain ⟨a5, c5, rfl, ho5, hb⟩ := hA.open
    rw [HN.out] at ho5 ⊢
    obtain ⟨w6, hw6⟩ : ∃ w6, w6 = w5.alloc (.cells #[.int .i64 U, .slice a5 n c5] 26) := ⟨_, rfl⟩
    have HS6 : Hid (SnW w w6) := Lib.hid (hw6 ▸ (HS4.out.call hb).alloc _)
    have HA6 : Hid (CB w6 w4.heap.size 26 #[.int .i64 U, .slice a4 n c4]) := Lib.hid (hw6 ▸ (HA4.out.call hb).alloc _)
    have HB6 : Hid (CB w6 w5.heap.size 26 #[.int .i64 U, .slice a5 n c5]) := Lib.hid (hw6 ▸ CB.new w5 _ _)
    have HX6 : Hid (CB w6 (w.heap.size + 1) 26 #[.int .i64 u, .slice ax k cx]) := Lib.hid (hw6 ▸ (HX4.out.call hb).alloc _)
    have hq6 : Below w5.heap.size w5 w6 := hw6 ▸ (Below.refl _ _).alloc (Nat.le_refl _) _
    have HR6 := Lib.hid ((HR4.out.call hb).call hq6)
    have HT6 := Lib.hid (ho5.rdv.call hq6)
    clear hA ho5 hb HS4 HA4 HX4 HK4 HR4 KR hq6
    go_wp2_with fail
    rw [← hw6]
    clear hw6
    have hS6 : w6.drew.cell? ⟨w4.heap.size, 0, none⟩ = some (.int .i64 U) ∧ w6.drew.cell? ⟨w4.heap.size, 1, none⟩ = some (.slice a4 n c4) ∧ w6.drew.cell? ⟨w5.heap.size, 0, none⟩ = some (.int .i64 U) ∧ w6.drew.cell? ⟨w5.heap.size, 1, none⟩ = some (.slice a5 n c5) ∧ w6.drew.cell? ⟨w.heap.size + 1, 0, none⟩ = some (.int .i64 u) ∧ w6.drew.cell? ⟨w.heap.size + 1, 1, none⟩ = some (.slice ax k cx) := ⟨HA6.out.cell 0, HA6.out.cell 1, HB6.out.cell 0, HB6.out.cell 1, HX6.out.cell 0, HX6.out.cell 1⟩
    go_region_held3 (fun w' => w'.cell? ⟨w4.heap.size, 0, none⟩ = some (.int .i64 U) ∧ w'.cell? ⟨w4.heap.size, 1, none⟩ = some (.slice a4 n c4) ∧ w'.cell? ⟨w5.heap.size, 0, none⟩ = some (.int .i64 U) ∧ w'.cell? ⟨w5.heap.size, 1, none⟩ = some (.slice a5 n c5) ∧ w'.cell? ⟨w.heap.size + 1, 0, none⟩ = some (.int .i64 u) ∧ w'.cell? ⟨w.heap.size + 1, 1, none⟩ = some (.slice ax k cx))
      (first
        | exact hS9
        | exact hS8
        | exact hS7
        | exact hS6)
      (first
        | (go_at_call 12
           with_reducible refine (KD.out w8).mono ?_
           rintro e w9 ⟨rfl, hb⟩
           have HS9 := Lib.hid (HS8.out.call hb)
           have hS9 : w9.cell? ⟨w4.heap.size, 0, none⟩ = some (.int .i64 U) ∧ w9.cell? ⟨w4.heap.size, 1, none⟩ = some (.slice a4 n c4) ∧ w9.cell? ⟨w5.heap.size, 0, none⟩ = some (.int .i64 U) ∧ w9.cell? ⟨w5.heap.size, 1, none⟩ = some (.slice a5 n c5) ∧ w9.cell? ⟨w.heap.size + 1, 0, none⟩ = some (.int .i64 u) ∧ w9.cell? ⟨w.heap.size + 1, 1, none⟩ = some (.slice ax k cx) := ⟨(HA8.out.call hb).cell 0, (HA8.out.call hb).cell 1, (HB8.out.call hb).cell 0, (HB8.out.call hb).cell 1, (HX8.out.call hb).cell 0, (HX8.out.call hb).cell 1⟩
           clear hb)
        | (go_at_call 11
           with_reducible refine (KC.out w7).mono ?_
           rintro e w8 ⟨rfl, hb⟩
           have HS8 := Lib.hid (HS7.out.call hb)
           have HA8 := Lib.hid (HA7.out.call hb)
           have HB8 := Lib.hid (HB7.out.call hb)
           have HX8 := Lib.hid (HX7.out.call hb)
           have hS8 : w8.cell? ⟨w4.heap.size, 0, none⟩ = some (.int .i64 U) ∧ w8.cell? ⟨w4.heap.size, 1, none⟩ = some (.slice a4 n c4) ∧ w8.cell? ⟨w5.heap.size, 0, none⟩ = some (.int .i64 U) ∧ w8.cell? ⟨w5.heap.size, 1, none⟩ = some (.slice a5 n c5) ∧ w8.cell? ⟨w.heap.size + 1, 0, none⟩ = some (.int .i64 u) ∧ w8.cell? ⟨w.heap.size + 1, 1, none⟩ = some (.slice ax k cx) := ⟨HA8.out.cell 0, HA8.out.cell 1, HB8.out.cell 0, HB8.out.cell 1, HX8.out.cell 0, HX8.out.cell 1⟩
           clear hb)
        | (go_at_call 10
           with_reducible refine (KS.out a4 a5 c4 c5 w6.drew (HR6.out.call ((Below.refl w6.heap.size w6).drew)) (HT6.out.call ((Below.refl w6.heap.size w6).drew))).mono ?_
           rintro e w7 ⟨rfl, hb⟩
           have HS7 := Lib.hid ((HS6.out.call ((Below.refl w6.heap.size w6).drew)).call hb)
           have HA7 := Lib.hid ((HA6.out.call ((Below.refl w6.heap.size w6).drew)).call hb)
           have HB7 := Lib.hid ((HB6.out.call ((Below.refl w6.heap.size w6).drew)).call hb)
           have HX7 := Lib.hid ((HX6.out.call ((Below.refl w6.heap.size w6).drew)).call hb)
           have hS7 : w7.cell? ⟨w4.heap.size, 0, none⟩ = some (.int .i64 U) ∧ w7.cell? ⟨w4.heap.size, 1, none⟩ = some (.slice a4 n c4) ∧ w7.cell? ⟨w5.heap.size, 0, none⟩ = some (.int .i64 U) ∧ w7.cell? ⟨w5.heap.size, 1, none⟩ = some (.slice a5 n c5) ∧ w7.cell? ⟨w.heap.size + 1, 0, none⟩ = some (.int .i64 u) ∧ w7.cell? ⟨w.heap.size + 1, 1, none⟩ = some (.slice ax k cx) := ⟨HA7.out.cell 0, HA7.out.cell 1, HB7.out.cell 0, HB7.out.cell 1, HX7.out.cell 0, HX7.out.cell 1⟩
           clear hb))
    go_wp2_with fail
    go_ret
    exact ⟨rfl, HS9.out.below⟩
  · rw [decide_eq_false hf]
    clear hf
    have HG4 := Lib.hid (CB.new w3 24 #[.slice ah p ch])
    replace HS3 := Lib.hid (HS3.out.alloc (.cells #[.slice ah p ch] 24))
    replace HK3 : Hid (BB (w3.alloc (.cells #[.slice ah p ch] 24)) w.heap.size 23 K) := Lib.hid (HK3.out.alloc _)
    replace HX3 := Lib.hid (HX3.out.alloc (.cells #[.slice ah p ch] 24))
    go_wp2_with fail
    refine (KG.out _ _ _ HG4.out).mono ?_
    rintro e w3' ⟨rfl, hw3⟩
    rw [← hw3] at HS3 HK3 HX3
    clear hw3 HG4 KG
    by_cases hg : p ≤ 600
    · rw [decide_eq_true hg]
      have HPL : Hid (hd.length ≤ 70368744100000) := Lib.hid (by rw [← HP.out]; omega)
      clear hg
      go_wp2_with fail
      refine (KL.out _).mono ?_
      rintro e w3'' ⟨rfl, hw3⟩
      rw [hw3]
      clear hw3 KL w3''
      by_cases hm : 65536 < m ∧ m < 70000
      · rw [decide_eq_true hm]
        clear hm
        go_wp2_with (refine wpList_load_row rfl 23 (.tmp 6) rfl w.heap.size rfl _ (bvA K) (0, 0) _ HK3.out Tryz.underlying23 rfl HSZ.out ?_)
        refine (KU.out _ HS3.out.tab (HH.out.call HS3.out.below) (HL.out.call HS3.out.below) HPL.out).mono ?_
        rintro e w4 hA
        obtain ⟨a4, c4, rfl, ho4, hb⟩ := hA.open
        rw [HN.out] at ho4 ⊢
        have HS4 := Lib.hid ((HS3.out.call hb).alloc (.cells #[.int .i64 U, .slice a4 n c4] 26))
        have HA4 := Lib.hid (CB.new w4 26 #[.int .i64 U, .slice a4 n c4])
        have HX4 := Lib.hid ((HX3.out.call hb).alloc (.cells #[.int .i64 U, .slice a4 n c4] 26))
        have HK4 : Hid (BB (w4.alloc (.cells #[.int .i64 U, .slice a4 n c4] 26)) w.heap.size 23 K) := Lib.hid ((HK3.out.below hb HK3.out.lt).alloc _)
        have HR4 := Lib.hid (ho4.rdv.call ((Below.refl w4.heap.size w4).alloc (Nat.le_refl _) (.cells #[.int .i64 U, .slice a4 n c4] 26)))
        clear hA ho4 hb HS3 HX3 HK3 KU
        go_wp2_with (refine wpList_load_row rfl 23 (.tmp 6) rfl w.heap.size rfl _ (bvA K) (0, 0) _ HK4.out Tryz.underlying23 rfl HSZ.out ?_)
        refine (KR.out _ (HH.out.call HS4.out.below) (HL.out.call HS4.out.below) HPL.out).mono ?_
        rintro e w5 hA
        obtain ⟨a5, c5, rfl, ho5, hb⟩ := hA.open
        rw [HN.out] at ho5 ⊢
        obtain ⟨w6, hw6⟩ : ∃ w6, w6 = w5.alloc (.cells #[.int .i64 U, .slice a5 n c5] 26) := ⟨_, rfl⟩
        have HS6 : Hid (SnW w w6) := Lib.hid (hw6 ▸ (HS4.out.call hb).alloc _)
        have HA6 : Hid (CB w6 w4.heap.size 26 #[.int .i64 U, .slice a4 n c4]) := Lib.hid (hw6 ▸ (HA4.out.call hb).alloc _)
        have HB6 : Hid (CB w6 w5.heap.size 26 #[.int .i64 U, .slice a5 n c5]) := Lib.hid (hw6 ▸ CB.new w5 _ _)
        have HX6 : Hid (CB w6 (w.heap.size + 1) 26 #[.int .i64 u, .slice ax k cx]) := Lib.hid (hw6 ▸ (HX4.out.call hb).alloc _)
        have hq6 : Below w5.heap.size w5 w6 := hw6 ▸ (Below.refl _ _).alloc (Nat.le_refl _) _
        have HR6 := Lib.hid ((HR4.out.call hb).call hq6)
        have HT6 := Lib.hid (ho5.rdv.call hq6)
        clear hA ho5 hb HS4 HA4 HX4 HK4 HR4 KR hq6
        go_wp2_with fail
        rw [← hw6]
        clear hw6
        have hS6 : w6.drew.cell? ⟨w4.heap.size, 0, none⟩ = some (.int .i64 U) ∧ w6.drew.cell? ⟨w4.heap.size, 1, none⟩ = some (.slice a4 n c4) ∧ w6.drew.cell? ⟨w5.heap.size, 0, none⟩ = some (.int .i64 U) ∧ w6.drew.cell? ⟨w5.heap.size, 1, none⟩ = some (.slice a5 n c5) ∧ w6.drew.cell? ⟨w.heap.size + 1, 0, none⟩ = some (.int .i64 u) ∧ w6.drew.cell? ⟨w.heap.size + 1, 1, none⟩ = some (.slice ax k cx) := ⟨HA6.out.cell 0, HA6.out.cell 1, HB6.out.cell 0, HB6.out.cell 1, HX6.out.cell 0, HX6.out.cell 1⟩
        go_region_held3 (fun w' => w'.cell? ⟨w4.heap.size, 0, none⟩ = some (.int .i64 U) ∧ w'.cell? ⟨w4.heap.size, 1, none⟩ = some (.slice a4 n c4) ∧ w'.cell? ⟨w5.heap.size, 0, none⟩ = some (.int .i64 U) ∧ w'.cell? ⟨w5.heap.size, 1, none⟩ = some (.slice a5 n c5) ∧ w'.cell? ⟨w.heap.size + 1, 0, none⟩ = some (.int .i64 u) ∧ w'.cell? ⟨w.heap.size + 1, 1, none⟩ = some (.slice ax k cx))
          (first
            | exact hS9
            | exact hS8
            | exact hS7
            | exact hS6)
          (first
            | (go_at_call 12
               with_reducible refine (KD.out w8).mono ?_
               rintro e w9 ⟨rfl, hb⟩
               have HS9 := Lib.hid (HS8.out.call hb)
               have hS9 : w9.cell? ⟨w4.heap.size, 0, none⟩ = some (.int .i64 U) ∧ w9.cell? ⟨w4.heap.size, 1, none⟩ = some (.slice a4 n c4) ∧ w9.cell? ⟨w5.heap.size, 0, none⟩ = some (.int .i64 U) ∧ w9.cell? ⟨w5.heap.size, 1, none⟩ = some (.slice a5 n c5) ∧ w9.cell? ⟨w.heap.size + 1, 0, none⟩ = some (.int .i64 u) ∧ w9.cell? ⟨w.heap.size + 1, 1, none⟩ = some (.slice ax k cx) := ⟨(HA8.out.call hb).cell 0, (HA8.out.call hb).cell 1, (HB8.out.call hb).cell 0, (HB8.out.call hb).cell 1, (HX8.out.call hb).cell 0, (HX8.out.call hb).cell 1⟩
               clear hb)
            | (go_at_call 11
               with_reducible refine (KC.out w7).mono ?_
               rintro e w8 ⟨rfl, hb⟩
               have HS8 := Lib.hid (HS7.out.call hb)
               have HA8 := Lib.hid (HA7.out.call hb)
               have HB8 := Lib.hid (HB7.out.call hb)
               have HX8 := Lib.hid (HX7.out.call hb)
               have hS8 : w8.cell? ⟨w4.heap.size, 0, none⟩ = some (.int .i64 U) ∧ w8.cell? ⟨w4.heap.size, 1, none⟩ = some (.slice a4 n c4) ∧ w8.cell? ⟨w5.heap.size, 0, none⟩ = some (.int .i64 U) ∧ w8.cell? ⟨w5.heap.size, 1, none⟩ = some (.slice a5 n c5) ∧ w8.cell? ⟨w.heap.size + 1, 0, none⟩ = some (.int .i64 u) ∧ w8.cell? ⟨w.heap.size + 1, 1, none⟩ = some (.slice ax k cx) := ⟨HA8.out.cell 0, HA8.out.cell 1, HB8.out.cell 0, HB8.out.cell 1, HX8.out.cell 0, HX8.out.cell 1⟩
               clear hb)
            | (go_at_call 10
               with_reducible refine (KS.out a4 a5 c4 c5 w6.drew (HR6.out.call ((Below.refl w6.heap.size w6).drew)) (HT6.out.call ((Below.refl w6.heap.size w6).drew))).mono ?_
               rintro e w7 ⟨rfl, hb⟩
               have HS7 := Lib.hid ((HS6.out.call ((Below.refl w6.heap.size w6).drew)).call hb)
               have HA7 := Lib.hid ((HA6.out.call ((Below.refl w6.heap.size w6).drew)).call hb)
               have HB7 := Lib.hid ((HB6.out.call ((Below.refl w6.heap.size w6).drew)).call hb)
               have HX7 := Lib.hid ((HX6.out.call ((Below.refl w6.heap.size w6).drew)).call hb)
               have hS7 : w7.cell? ⟨w4.heap.size, 0, none⟩ = some (.int .i64 U) ∧ w7.cell? ⟨w4.heap.size, 1, none⟩ = some (.slice a4 n c4) ∧ w7.cell? ⟨w5.heap.size, 0, none⟩ = some (.int .i64 U) ∧ w7.cell? ⟨w5.heap.size, 1, none⟩ = some (.slice a5 n c5) ∧ w7.cell? ⟨w.heap.size + 1, 0, none⟩ = some (.int .i64 u) ∧ w7.cell? ⟨w.heap.size + 1, 1, none⟩ = some (.slice ax k cx) := ⟨HA7.out.cell 0, HA7.out.cell 1, HB7.out.cell 0, HB7.out.cell 1, HX7.out.cell 0, HX7.out.cell 1⟩
               clear hb))
        go_wp2_with fail
        go_ret
        exact ⟨rfl, HS9.out.below⟩
      · rw [decide_eq_false hm]
        clear hm
        go_wp2_with fail
        go_ret
        exact ⟨rfl, HS3.out.below⟩
    · rw [decide_eq_false hg]
      clear hg
      go_wp2_with fail
      go_ret
      exact ⟨rfl, HS3.out.below⟩
end Go.Proofs.YtpnemdhbdncknaaGreatDoor
