/-
  The walk of WrapSeed (chartroomlaw09).
-/
import Derived.Test.YtpnemdhbdncknaaDoorIn
import Derived.Test.YtpnemdhbdncknaaDoorIb
import Derived.Test.YtpnemdhbdncknaaDoorPkM
import Derived.Test.YtpnemdhbdncknaaDoorPkS
import Derived.Deep.RegionHeld3
namespace Go.Proofs.YtpnemdhbdncknaaDoor
open Go.RowKit
set_option linter.unusedVariables false
set_option linter.unusedSimpArgs false

set_option maxRecDepth 100000 in
set_option maxHeartbeats 8000000 in
theorem seed_walk9 (p0 p1 : Int) (K : List UInt8) (hK : K.length = 32) (hd b : List UInt8) (ah : Option Addr) (p ch : Nat) (a : Option Addr) (m cap : Nat) (w : World) (hT : Tab w) (hh : RdV w (.slice ah p ch) hd) (hl : RdV w (.slice a m cap) b) (hp2 : p < 140737488355328) (hm2 : m < 140737488355328) :
    Calls Tryd.prog 6 #[.int .i64 p0, .int .i64 p1, .agg (bvA K), .slice ah p ch, .slice a m cap] w fun e w' => e = .returned (.bool true) ∧ Below w.heap.size w w' := by
  have HSZ := Lib.hid (key_sz K hK)
  have KF := Lib.hid (fun W g T h => few2_any ah p ch a m cap (by omega) (by omega) g W T h)
  have HP := Lib.hid hh.len
  have HM := Lib.hid hl.len
  have HH := Lib.hid hh
  have HL := Lib.hid hl
  have HKL := Lib.hid hK
  obtain ⟨w1, hw1⟩ : ∃ w1, w1 = w.alloc (.cells (bvA K) 23) := ⟨_, rfl⟩
  have HS1 : Hid (SnW w w1) := Lib.hid (hw1 ▸ (SnW.mk (Below.refl _ _) hT).alloc _)
  have HK1 : Hid (BB w1 w.heap.size 23 K) := Lib.hid (hw1 ▸ BB.new w _ _)
  clear hT hh hl hK
  go_enter Tryd.func6, Tryd.ntmps6
  go_wp2_with fail
  rw [← hw1]
  clear hw1
  refine (sane9_any _ HS1.out.tab).mono ?_
  rintro e w2 ⟨rfl, hb⟩
  have HG3 := Lib.hid (CB.new w2 24 #[.slice ah p ch, .slice a m cap])
  have HS3 := Lib.hid ((HS1.out.call hb).alloc (.cells #[.slice ah p ch, .slice a m cap] 24))
  have HK3 : Hid (BB (w2.alloc (.cells #[.slice ah p ch, .slice a m cap] 24)) w.heap.size 23 K) := Lib.hid ((HK1.out.below hb HK1.out.lt).alloc _)
  clear hb HS1 HK1
  go_wp2_with fail
  refine (KF.out _ _ _ HG3.out).mono ?_
  rintro e w3 ⟨rfl, hw3⟩
  rw [← hw3] at HS3 HK3
  clear hw3 HG3 KF
  by_cases hf : p + m ≤ 600
  rotate_left
  · rw [decide_eq_false hf]
    clear hf
    go_wp2_with fail
    go_ret
    exact ⟨rfl, HS3.out.below⟩
  rw [decide_eq_true hf]
  have HPL : Hid (hd.length ≤ 70368744100000) := Lib.hid (by rw [← HP.out]; omega)
  have HBL : Hid (b.length ≤ 65536) := Lib.hid (by rw [← HM.out]; omega)
  have HF := Lib.hid hf
  clear hf hp2 hm2
  have HAL : Hid (hd.length ≤ 65536) := Lib.hid (by rw [← HP.out]; have := HF.out; omega)
  have K1 := Lib.hid (fun W h1 h2 h3 => Wrap_any p0 K HKL.out [] hd none 0 0 ah p ch W h1 h2 h3 (by decide))
  have K2 := Lib.hid (fun W h1 h2 h3 => Wrap_any p1 K HKL.out hd b ah p ch a m cap W h1 h2 h3 HPL.out)
  have K3 := Lib.hid (fun W h1 h2 h3 => Wrap_any p0 K HKL.out hd b ah p ch a m cap W h1 h2 h3 HPL.out)
  obtain ⟨Y2, hY2⟩ : ∃ Y, wrB p1 K hd b = Y := ⟨_, rfl⟩
  obtain ⟨n2, hn2⟩ : ∃ n, Y2.length = n := ⟨_, rfl⟩
  have N2 := Lib.hid hn2
  rw [hY2] at K2
  clear hY2 hn2
  rcases chkR_or p0 with h0 | h0
  · obtain ⟨e1, e2, e3⟩ := wr_ok h0 K [] HAL.out
    obtain ⟨g1, g2, g3⟩ := wr_ok h0 K hd HBL.out
    rw [e1, e2, e3] at K1
    rw [g1, g2, g3] at K3
    have N1 : Hid ((sealC (wKey p0 K) zN [] hd).length = p + 16) := Lib.hid (by rw [sealC_len, HP.out])
    have N3 : Hid ((sealC (wKey p0 K) zN hd b).length = m + 16) := Lib.hid (by rw [sealC_len, HM.out])
    have HXO := Lib.hid (fun j (h1 : j < hd.length) (h2 : j < b.length) => xor_bodies (wKey p0 K) zN [] hd hd b j h1 h2)
    generalize sealC (wKey p0 K) zN [] hd = Y1 at *
    generalize sealC (wKey p0 K) zN hd b = Y3 at *
    have hor : (wrE p1 b = 0 ∧ wrU p1 K b = (wUn K : Nat)) ∨ wrE p1 b = 50 := by
      rcases chkR_or p1 with h1 | h1
      · obtain ⟨r1, r2, -⟩ := wr_ok h1 K hd HBL.out
        exact .inl ⟨r1, r2⟩
      · exact .inr (wr_key (p := p1) (by rw [h1]; decide) K hd b).1
    obtain ⟨U2, hU2⟩ : ∃ U, wrU p1 K b = U := ⟨_, rfl⟩
    obtain ⟨E2, hE2⟩ : ∃ E, wrE p1 b = E := ⟨_, rfl⟩
    rw [hU2, hE2] at K2 hor
    clear e1 e2 e3 g1 g2 g3 hU2 hE2 h0
    generalize wUn K = u at *
    have HOR := Lib.hid hor
    clear hor
    go_wp2_with (refine wpList_load_row rfl 23 (.tmp 7) rfl w.heap.size rfl _ (bvA K) (0, 0) _ HK3.out Tryd.underlying23 rfl HSZ.out ?_)
    refine (K1.out _ HS3.out.tab (RdV.nil _) (HH.out.call HS3.out.below)).mono ?_
    rintro e w5 hA
    obtain ⟨a5, c5, rfl, ho5, hb⟩ := hA.open
    rw [N1.out] at ho5 ⊢
    have HS5 := Lib.hid ((HS3.out.call hb).alloc (.cells #[.int .i64 (u : Nat), .slice a5 (p + 16) c5] 32))
    have HC5 := Lib.hid (CB.new w5 32 #[.int .i64 (u : Nat), .slice a5 (p + 16) c5])
    have HK5 : Hid (BB (w5.alloc (.cells #[.int .i64 (u : Nat), .slice a5 (p + 16) c5] 32)) w.heap.size 23 K) := Lib.hid ((HK3.out.below hb HK3.out.lt).alloc _)
    have HR5 := Lib.hid (ho5.rdv.call ((Below.refl w5.heap.size w5).alloc (Nat.le_refl _) (.cells #[.int .i64 (u : Nat), .slice a5 (p + 16) c5] 32)))
    clear hA ho5 hb HS3 HK3 K1
    go_wp2_with (refine wpList_load_row rfl 23 (.tmp 7) rfl w.heap.size rfl _ (bvA K) (0, 0) _ HK5.out Tryd.underlying23 rfl HSZ.out ?_)
    refine (K2.out _ HS5.out.tab (HH.out.call HS5.out.below) (HL.out.call HS5.out.below)).mono ?_
    rintro e w6 hA
    obtain ⟨a6, c6, rfl, ho6, hb⟩ := hA.open
    rw [N2.out] at ho6 ⊢
    have HS6 := Lib.hid ((HS5.out.call hb).alloc (.cells #[.int .i64 U2, .slice a6 n2 c6] 32))
    have HC6 := Lib.hid (CB.new w6 32 #[.int .i64 U2, .slice a6 n2 c6])
    have HK6 : Hid (BB (w6.alloc (.cells #[.int .i64 U2, .slice a6 n2 c6] 32)) w.heap.size 23 K) := Lib.hid ((HK5.out.below hb HK5.out.lt).alloc _)
    have HR6 := Lib.hid (ho6.rdv.call ((Below.refl w6.heap.size w6).alloc (Nat.le_refl _) (.cells #[.int .i64 U2, .slice a6 n2 c6] 32)))
    replace HC5 := Lib.hid ((HC5.out.call hb).alloc (.cells #[.int .i64 U2, .slice a6 n2 c6] 32))
    replace HR5 := Lib.hid ((HR5.out.call hb).call ((Below.refl w6.heap.size w6).alloc (Nat.le_refl _) (.cells #[.int .i64 U2, .slice a6 n2 c6] 32)))
    clear hA ho6 hb HS5 HK5 K2
    go_wp2_with (refine wpList_load_row rfl 23 (.tmp 7) rfl w.heap.size rfl _ (bvA K) (0, 0) _ HK6.out Tryd.underlying23 rfl HSZ.out ?_)
    refine (K3.out _ HS6.out.tab (HH.out.call HS6.out.below) (HL.out.call HS6.out.below)).mono ?_
    rintro e w7 hA
    obtain ⟨a7, c7, rfl, ho7, hb⟩ := hA.open
    rw [N3.out] at ho7 ⊢
    have HS7 := Lib.hid ((HS6.out.call hb).alloc (.cells #[.int .i64 (u : Nat), .slice a7 (m + 16) c7] 32))
    have HC7 := Lib.hid (CB.new w7 32 #[.int .i64 (u : Nat), .slice a7 (m + 16) c7])
    have HK7 : Hid (BB (w7.alloc (.cells #[.int .i64 (u : Nat), .slice a7 (m + 16) c7] 32)) w.heap.size 23 K) := Lib.hid ((HK6.out.below hb HK6.out.lt).alloc _)
    have HR7 := Lib.hid (ho7.rdv.call ((Below.refl w7.heap.size w7).alloc (Nat.le_refl _) (.cells #[.int .i64 (u : Nat), .slice a7 (m + 16) c7] 32)))
    replace HC5 := Lib.hid ((HC5.out.call hb).alloc (.cells #[.int .i64 (u : Nat), .slice a7 (m + 16) c7] 32))
    replace HR5 := Lib.hid ((HR5.out.call hb).call ((Below.refl w7.heap.size w7).alloc (Nat.le_refl _) (.cells #[.int .i64 (u : Nat), .slice a7 (m + 16) c7] 32)))
    replace HC6 := Lib.hid ((HC6.out.call hb).alloc (.cells #[.int .i64 (u : Nat), .slice a7 (m + 16) c7] 32))
    replace HR6 := Lib.hid ((HR6.out.call hb).call ((Below.refl w7.heap.size w7).alloc (Nat.le_refl _) (.cells #[.int .i64 (u : Nat), .slice a7 (m + 16) c7] 32)))
    clear hA ho7 hb HS6 HK6 K3

    have d0 : (w7.alloc (.cells #[.int .i64 (u : Nat), .slice a7 (m + 16) c7] 32)).cell? ⟨w5.heap.size, 0, none⟩ = some (.int .i64 (u : Nat)) := HC5.out.cell 0
    have d1 : (w7.alloc (.cells #[.int .i64 (u : Nat), .slice a7 (m + 16) c7] 32)).cell? ⟨w5.heap.size, 1, none⟩ = some (.slice a5 (p + 16) c5) := HC5.out.cell 1
    have d2 : (w7.alloc (.cells #[.int .i64 (u : Nat), .slice a7 (m + 16) c7] 32)).cell? ⟨w6.heap.size, 0, none⟩ = some (.int .i64 U2) := HC6.out.cell 0
    have d4 : (w7.alloc (.cells #[.int .i64 (u : Nat), .slice a7 (m + 16) c7] 32)).cell? ⟨w7.heap.size, 0, none⟩ = some (.int .i64 (u : Nat)) := HC7.out.cell 0
    have d5 : (w7.alloc (.cells #[.int .i64 (u : Nat), .slice a7 (m + 16) c7] 32)).cell? ⟨w7.heap.size, 1, none⟩ = some (.slice a7 (m + 16) c7) := HC7.out.cell 1
    clear HR6 HC6 HK7
    have ip : (p : Int) ≤ 600 := by have := HF.out; omega
    have im : (m : Int) ≤ 600 := by have := HF.out; omega
    have iw1 : IntKind.i64.wrap ((p : Int) + 16) = (p : Int) + 16 := IntWalk.i64_in _ (by omega)
    have iw2 : IntKind.i64.wrap ((m : Int) + 16) = (m : Int) + 16 := IntWalk.i64_in _ (by omega)

    have hor := HOR.out
    rcases hor with ⟨rfl, rfl⟩ | rfl
    · go_wp2_with fail
      generalize (w7.alloc (.cells #[.int .i64 (u : Nat), .slice a7 (m + 16) c7] 32)) = w8 at *
      generalize w7.heap.size = g7 at *
      generalize w6.heap.size = g6 at *
      generalize w5.heap.size = g5 at *
      have HD1 := Lib.hid d1
      have HD5 := Lib.hid d5
      clear d0 d1 d2 d4 d5 iw1 iw2
      obtain ⟨M, hM⟩ : ∃ M, min p m = M := ⟨_, rfl⟩
      have hMp : M ≤ p := by omega
      have hMm : M ≤ m := by omega
      rw [show min (p : Int) (m : Int) = (M : Int) by omega]
      clear hM
      go_loopw [105] (fun i wr => ∃ j : Nat, j ≤ M ∧ i = .int .i64 j ∧ ∃ N, wr = w8.drewN N) (fun i _ => M - (intOf i).toNat)
      case atStart => exact ⟨0, by omega, rfl, 0, rfl⟩
      case round =>
        obtain ⟨j, hj, rfl, N, hwr⟩ := hrel
        by_cases hlt : j < M
        · have hjp : j < p := by omega
          have hjm : j < m := by omega
          obtain ⟨b1, o1, rfl, -, C1⟩ := HR5.out.cell (by omega)
          obtain ⟨b2, o2, rfl, -, C2⟩ := HR7.out.cell (by omega)
          obtain ⟨b3, o3, rfl, -, C3⟩ := (HH.out.call HS7.out.below).cell (by omega)
          obtain ⟨b4, o4, rfl, -, C4⟩ := (HL.out.call HS7.out.below).cell (by omega)
          have l1 : wr.cell? ⟨g5, 1, none⟩ = some (.slice (some ⟨b1, o1, none⟩) (p + 16) c5) := by rw [hwr]; exact HD1.out
          have l2 : wr.cell? ⟨g7, 1, none⟩ = some (.slice (some ⟨b2, o2, none⟩) (m + 16) c7) := by rw [hwr]; exact HD5.out
          have k1 : wr.cell? ⟨b1, o1 + j, none⟩ = some (.int .u8 ((Y1.getD j 0).toNat : Int)) := by rw [hwr]; exact C1 j (by omega)
          have k2 : wr.cell? ⟨b2, o2 + j, none⟩ = some (.int .u8 ((Y3.getD j 0).toNat : Int)) := by rw [hwr]; exact C2 j (by omega)
          have k3 : wr.cell? ⟨b3, o3 + j, none⟩ = some (.int .u8 ((hd.getD j 0).toNat : Int)) := by rw [hwr]; exact C3 j hjp
          have k4 : wr.cell? ⟨b4, o4 + j, none⟩ = some (.int .u8 ((b.getD j 0).toNat : Int)) := by rw [hwr]; exact C4 j hjm
          have hx1 := bv_xor (Y1.getD j 0) (Y3.getD j 0)
          have hx2 := bv_xor (hd.getD j 0) (b.getD j 0)
          rw [HXO.out j (by rw [← HP.out]; exact hjp) (by rw [← HM.out]; exact hjm)] at hx1
          generalize hd.getD j 0 ^^^ b.getD j 0 = z at *
          generalize Y1.getD j 0 = y1 at *
          generalize Y3.getD j 0 = y3 at *
          generalize hd.getD j 0 = x1 at *
          generalize b.getD j 0 = x2 at *
          have ij1 : (j : Int) < (p : Int) := by omega
          have ij2 : (j : Int) < (m : Int) := by omega
          have ij3 : (j : Int) < (p : Int) + 16 := by omega
          have ij4 : (j : Int) < (m : Int) + 16 := by omega
          have f5 : decide ((j : Int) < (M : Int)) = true := decide_eq_true (by omega)
          have HWR := Lib.hid hwr
          have HLT := Lib.hid hlt
          clear hwr hlt hj hjp hjm C1 C2 C3 C4
          go_wp2_with fail
          go_still (by kernel_rfl)
          go_wp2_with fail
          go_roundw
          case rel => exact ⟨j + 1, HLT.out, by go_num, N + 1, by rw [HWR.out]; rfl⟩
          case measure =>
            have h := HLT.out
            simp [intOf]; omega
        · obtain rfl : j = M := by omega
          subst hwr
          have f5 : decide ((j : Int) < (j : Int)) = false := decide_eq_false (by omega)
          go_wp2_with fail
          go_ret
          exact ⟨rfl, below_dN HS7.out.below _⟩

    · go_wp2_with fail
      generalize (w7.alloc (.cells #[.int .i64 (u : Nat), .slice a7 (m + 16) c7] 32)) = w8 at *
      generalize w7.heap.size = g7 at *
      generalize w6.heap.size = g6 at *
      generalize w5.heap.size = g5 at *
      have HD1 := Lib.hid d1
      have HD5 := Lib.hid d5
      clear d0 d1 d2 d4 d5 iw1 iw2
      obtain ⟨M, hM⟩ : ∃ M, min p m = M := ⟨_, rfl⟩
      have hMp : M ≤ p := by omega
      have hMm : M ≤ m := by omega
      rw [show min (p : Int) (m : Int) = (M : Int) by omega]
      clear hM
      go_loopw [105] (fun i wr => ∃ j : Nat, j ≤ M ∧ i = .int .i64 j ∧ ∃ N, wr = w8.drewN N) (fun i _ => M - (intOf i).toNat)
      case atStart => exact ⟨0, by omega, rfl, 0, rfl⟩
      case round =>
        obtain ⟨j, hj, rfl, N, hwr⟩ := hrel
        by_cases hlt : j < M
        · have hjp : j < p := by omega
          have hjm : j < m := by omega
          obtain ⟨b1, o1, rfl, -, C1⟩ := HR5.out.cell (by omega)
          obtain ⟨b2, o2, rfl, -, C2⟩ := HR7.out.cell (by omega)
          obtain ⟨b3, o3, rfl, -, C3⟩ := (HH.out.call HS7.out.below).cell (by omega)
          obtain ⟨b4, o4, rfl, -, C4⟩ := (HL.out.call HS7.out.below).cell (by omega)
          have l1 : wr.cell? ⟨g5, 1, none⟩ = some (.slice (some ⟨b1, o1, none⟩) (p + 16) c5) := by rw [hwr]; exact HD1.out
          have l2 : wr.cell? ⟨g7, 1, none⟩ = some (.slice (some ⟨b2, o2, none⟩) (m + 16) c7) := by rw [hwr]; exact HD5.out
          have k1 : wr.cell? ⟨b1, o1 + j, none⟩ = some (.int .u8 ((Y1.getD j 0).toNat : Int)) := by rw [hwr]; exact C1 j (by omega)
          have k2 : wr.cell? ⟨b2, o2 + j, none⟩ = some (.int .u8 ((Y3.getD j 0).toNat : Int)) := by rw [hwr]; exact C2 j (by omega)
          have k3 : wr.cell? ⟨b3, o3 + j, none⟩ = some (.int .u8 ((hd.getD j 0).toNat : Int)) := by rw [hwr]; exact C3 j hjp
          have k4 : wr.cell? ⟨b4, o4 + j, none⟩ = some (.int .u8 ((b.getD j 0).toNat : Int)) := by rw [hwr]; exact C4 j hjm
          have hx1 := bv_xor (Y1.getD j 0) (Y3.getD j 0)
          have hx2 := bv_xor (hd.getD j 0) (b.getD j 0)
          rw [HXO.out j (by rw [← HP.out]; exact hjp) (by rw [← HM.out]; exact hjm)] at hx1
          generalize hd.getD j 0 ^^^ b.getD j 0 = z at *
          generalize Y1.getD j 0 = y1 at *
          generalize Y3.getD j 0 = y3 at *
          generalize hd.getD j 0 = x1 at *
          generalize b.getD j 0 = x2 at *
          have ij1 : (j : Int) < (p : Int) := by omega
          have ij2 : (j : Int) < (m : Int) := by omega
          have ij3 : (j : Int) < (p : Int) + 16 := by omega
          have ij4 : (j : Int) < (m : Int) + 16 := by omega
          have f5 : decide ((j : Int) < (M : Int)) = true := decide_eq_true (by omega)
          have HWR := Lib.hid hwr
          have HLT := Lib.hid hlt
          clear hwr hlt hj hjp hjm C1 C2 C3 C4
          go_wp2_with fail
          go_still (by kernel_rfl)
          go_wp2_with fail
          go_roundw
          case rel => exact ⟨j + 1, HLT.out, by go_num, N + 1, by rw [HWR.out]; rfl⟩
          case measure =>
            have h := HLT.out
            simp [intOf]; omega
        · obtain rfl : j = M := by omega
          subst hwr
          have f5 : decide ((j : Int) < (j : Int)) = false := decide_eq_false (by omega)
          go_wp2_with fail
          go_ret
          exact ⟨rfl, below_dN HS7.out.below _⟩

  · obtain ⟨e1, e2, e3⟩ := wr_key (p := p0) (by rw [h0]; decide) K [] hd
    obtain ⟨g1, g2, g3⟩ := wr_key (p := p0) (by rw [h0]; decide) K hd b
    rw [e1, e2, e3] at K1
    rw [g1, g2, g3] at K3
    have N0 : Hid (([] : List UInt8).length = 0) := Lib.hid rfl
    obtain ⟨U2, hU2⟩ : ∃ U, wrU p1 K b = U := ⟨_, rfl⟩
    obtain ⟨E2, hE2⟩ : ∃ E, wrE p1 b = E := ⟨_, rfl⟩
    rw [hU2, hE2] at K2
    have KC := Lib.hid (fun W => hCheck_any p0 W)
    rw [h0] at KC
    clear e1 e2 e3 g1 g2 g3 hU2 hE2 h0
    go_wp2_with (refine wpList_load_row rfl 23 (.tmp 7) rfl w.heap.size rfl _ (bvA K) (0, 0) _ HK3.out Tryd.underlying23 rfl HSZ.out ?_)
    refine (K1.out _ HS3.out.tab (RdV.nil _) (HH.out.call HS3.out.below)).mono ?_
    rintro e w5 hA
    obtain ⟨a5, c5, rfl, ho5, hb⟩ := hA.open
    rw [N0.out] at ho5 ⊢
    have HS5 := Lib.hid ((HS3.out.call hb).alloc (.cells #[.int .i64 0, .slice a5 0 c5] 32))
    have HC5 := Lib.hid (CB.new w5 32 #[.int .i64 0, .slice a5 0 c5])
    have HK5 : Hid (BB (w5.alloc (.cells #[.int .i64 0, .slice a5 0 c5] 32)) w.heap.size 23 K) := Lib.hid ((HK3.out.below hb HK3.out.lt).alloc _)
    have HR5 := Lib.hid (ho5.rdv.call ((Below.refl w5.heap.size w5).alloc (Nat.le_refl _) (.cells #[.int .i64 0, .slice a5 0 c5] 32)))
    clear hA ho5 hb HS3 HK3 K1
    go_wp2_with (refine wpList_load_row rfl 23 (.tmp 7) rfl w.heap.size rfl _ (bvA K) (0, 0) _ HK5.out Tryd.underlying23 rfl HSZ.out ?_)
    refine (K2.out _ HS5.out.tab (HH.out.call HS5.out.below) (HL.out.call HS5.out.below)).mono ?_
    rintro e w6 hA
    obtain ⟨a6, c6, rfl, ho6, hb⟩ := hA.open
    rw [N2.out] at ho6 ⊢
    have HS6 := Lib.hid ((HS5.out.call hb).alloc (.cells #[.int .i64 U2, .slice a6 n2 c6] 32))
    have HC6 := Lib.hid (CB.new w6 32 #[.int .i64 U2, .slice a6 n2 c6])
    have HK6 : Hid (BB (w6.alloc (.cells #[.int .i64 U2, .slice a6 n2 c6] 32)) w.heap.size 23 K) := Lib.hid ((HK5.out.below hb HK5.out.lt).alloc _)
    have HR6 := Lib.hid (ho6.rdv.call ((Below.refl w6.heap.size w6).alloc (Nat.le_refl _) (.cells #[.int .i64 U2, .slice a6 n2 c6] 32)))
    replace HC5 := Lib.hid ((HC5.out.call hb).alloc (.cells #[.int .i64 U2, .slice a6 n2 c6] 32))
    replace HR5 := Lib.hid ((HR5.out.call hb).call ((Below.refl w6.heap.size w6).alloc (Nat.le_refl _) (.cells #[.int .i64 U2, .slice a6 n2 c6] 32)))
    clear hA ho6 hb HS5 HK5 K2
    go_wp2_with (refine wpList_load_row rfl 23 (.tmp 7) rfl w.heap.size rfl _ (bvA K) (0, 0) _ HK6.out Tryd.underlying23 rfl HSZ.out ?_)
    refine (K3.out _ HS6.out.tab (HH.out.call HS6.out.below) (HL.out.call HS6.out.below)).mono ?_
    rintro e w7 hA
    obtain ⟨a7, c7, rfl, ho7, hb⟩ := hA.open
    rw [N0.out] at ho7 ⊢
    have HS7 := Lib.hid ((HS6.out.call hb).alloc (.cells #[.int .i64 0, .slice a7 0 c7] 32))
    have HC7 := Lib.hid (CB.new w7 32 #[.int .i64 0, .slice a7 0 c7])
    have HK7 : Hid (BB (w7.alloc (.cells #[.int .i64 0, .slice a7 0 c7] 32)) w.heap.size 23 K) := Lib.hid ((HK6.out.below hb HK6.out.lt).alloc _)
    have HR7 := Lib.hid (ho7.rdv.call ((Below.refl w7.heap.size w7).alloc (Nat.le_refl _) (.cells #[.int .i64 0, .slice a7 0 c7] 32)))
    replace HC5 := Lib.hid ((HC5.out.call hb).alloc (.cells #[.int .i64 0, .slice a7 0 c7] 32))
    replace HR5 := Lib.hid ((HR5.out.call hb).call ((Below.refl w7.heap.size w7).alloc (Nat.le_refl _) (.cells #[.int .i64 0, .slice a7 0 c7] 32)))
    replace HC6 := Lib.hid ((HC6.out.call hb).alloc (.cells #[.int .i64 0, .slice a7 0 c7] 32))
    replace HR6 := Lib.hid ((HR6.out.call hb).call ((Below.refl w7.heap.size w7).alloc (Nat.le_refl _) (.cells #[.int .i64 0, .slice a7 0 c7] 32)))
    clear hA ho7 hb HS6 HK6 K3

    go_wp2_with (go_at_call 22; refine (KC.out _).mono ?_; rintro e w9 ⟨rfl, hw⟩; rw [hw]; clear hw w9)
    go_ret
    exact ⟨rfl, HS7.out.below⟩
end Go.Proofs.YtpnemdhbdncknaaDoor
