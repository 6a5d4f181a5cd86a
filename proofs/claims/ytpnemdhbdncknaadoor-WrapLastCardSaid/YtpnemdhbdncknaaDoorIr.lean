/-
  The walk of WrapLast (chartroomlaw09).
-/
import Derived.Test.YtpnemdhbdncknaaDoorIn
import Derived.Test.YtpnemdhbdncknaaDoorIb
import Derived.Test.YtpnemdhbdncknaaDoorPkM
import Derived.Test.YtpnemdhbdncknaaDoorPkS
import Derived.Test.YtpnemdhbdncknaaDoorPkE
import Derived.Test.YtpnemdhbdncknaaDoorPkI
import Derived.Deep.RegionHeld3
namespace Go.Proofs.YtpnemdhbdncknaaDoor
open Go.RowKit
set_option linter.unusedVariables false
set_option linter.unusedSimpArgs false

theorem wp_allocW {o : Oper} {a : Act} {w : World} {K : Act → World → Prop} {Q : Exit → Act → World → Prop} (ho : o.op = .alloc 32)
    (h : ∀ w' g, CB w' g 32 #[.int .i64 0, .slice none 0 0] → w.heap.size ≤ g → Below w.heap.size w w' → K (a.put o.dst (.pointer (some ⟨g, 0, none⟩))) w') : o.wp Tryd.prog a w K Q := by
  have hh := h (w.alloc (.cells #[.int .i64 0, .slice none 0 0] 32)) w.heap.size (CB.new w _ _) (Nat.le_refl _) ((Below.refl _ _).alloc (Nat.le_refl _) _)
  unfold Oper.wp execOp
  have hr : (Instr.alloc 32 true (.tuple #[])).run Tryd.prog w = .ok (.pointer (some ⟨w.heap.size, 0, none⟩)) (w.alloc (.cells #[.int .i64 0, .slice none 0 0] 32)) := by kernel_rfl
  simp only [ho, Sem.run_bind, Sem.run_pure, Result.andThen_ok, hr]
  exact hh

set_option maxRecDepth 100000 in
set_option maxHeartbeats 4000000 in
theorem last_walk9 (x0 : Int) (hx1 : -9223372036854775808 ≤ x0) (hx2 : x0 < 9223372036854775808) (K : List UInt8) (hK : K.length = 32) (hd b : List UInt8) (ah : Option Addr) (p ch : Nat) (a : Option Addr) (m cap : Nat) (ay cy : UInt8) (w : World) (hT : Tab w) (hh : RdV w (.slice ah p ch) hd) (hl : RdV w (.slice a m cap) b) (hp2 : p < 140737488355328) (hm2 : m < 140737488355328) :
    Calls Tryd.prog 7 #[.int .i64 x0, .agg (bvA K), .slice ah p ch, .slice a m cap, .int .u8 (ay.toNat : Int), .int .u8 (cy.toNat : Int)] w fun e w' => e = .returned (.bool true) ∧ Below w.heap.size w w' := by
  have HSZ := Lib.hid (key_sz K hK)
  have KF := Lib.hid (fun W g T h => few2_any ah p ch a m cap (by omega) (by omega) g W T h)
  have KY := Lib.hid (fun W => rKey x0 hx1 hx2 W)
  have hxb := keyN_bd x0
  obtain ⟨x, hx⟩ : ∃ x, keyN x0 = x := ⟨_, rfl⟩
  rw [hx] at KY hxb
  have HXB := Lib.hid hxb
  have KP := Lib.hid (fun W => public_ok x hxb.1 hxb.2 W)
  have HP := Lib.hid hh.len
  have HM := Lib.hid hl.len
  have HH := Lib.hid hh
  have HL := Lib.hid hl
  have HKL := Lib.hid hK
  obtain ⟨w1, hw1⟩ : ∃ w1, w1 = w.alloc (.cells (bvA K) 23) := ⟨_, rfl⟩
  have HS1 : Hid (SnW w w1) := Lib.hid (hw1 ▸ (SnW.mk (Below.refl _ _) hT).alloc _)
  have HK1 : Hid (BB w1 w.heap.size 23 K) := Lib.hid (hw1 ▸ BB.new w _ _)
  clear hT hh hl hK hx hxb hx1 hx2
  go_enter Tryd.func7, Tryd.ntmps7
  go_wp2_with fail
  rw [← hw1]
  clear hw1
  refine (sane9_any _ HS1.out.tab).mono ?_
  rintro e w2 ⟨rfl, hb⟩
  have HG3 := Lib.hid (CB.new w2 24 #[.slice ah p ch, .slice a m cap])
  have HS3 := Lib.hid ((HS1.out.call hb).alloc (.cells #[.slice ah p ch, .slice a m cap] 24))
  have HK3 : Hid (BB (w2.alloc (.cells #[.slice ah p ch, .slice a m cap] 24)) w.heap.size 23 K) := Lib.hid ((HK1.out.below hb HK1.out.lt).alloc _)
  clear hb HS1 HK1
  go_wp2_with fail
  refine (KF.out _ _ _ HG3.out).mono ?_
  rintro e w3 ⟨rfl, hw3⟩
  rw [← hw3] at HS3 HK3
  clear hw3 HG3 KF
  by_cases hf : p + m ≤ 600
  rotate_left
  · rw [decide_eq_false hf]
    clear hf
    go_wp2_with fail
    go_ret
    exact ⟨rfl, HS3.out.below⟩
  rw [decide_eq_true hf]
  have HPL : Hid (hd.length ≤ 70368744100000) := Lib.hid (by rw [← HP.out]; omega)
  have HBL : Hid (b.length ≤ 65536) := Lib.hid (by rw [← HM.out]; omega)
  have HF := Lib.hid hf
  clear hf hp2 hm2
  by_cases hcy : cy = 0
  · subst hcy
    go_wp2_with fail
    go_ret
    exact ⟨rfl, HS3.out.below⟩
  have HCY := Lib.hid hcy
  have fcy : (((cy.toNat : Nat) : Int) == 0) = false := beq_eq_false_iff_ne.2 (fun e => hcy (UInt8.toNat_inj.1 (show cy.toNat = 0 by omega)))
  clear hcy
  obtain ⟨u, hu⟩ : ∃ u, wUn K = u := ⟨_, rfl⟩
  obtain ⟨X, hX⟩ : ∃ X, wrB ((pubS x : Nat) : Int) K hd b = X := ⟨_, rfl⟩
  obtain ⟨n1, n2, n3, n4, n5, n6⟩ := unwraps HXB.out.1 HXB.out.2 K hd HBL.out
  rw [hu] at n2 n4 n5 n6
  rw [hX] at n3 n5 n6
  rw [← HM.out] at n3 n4
  have KU := Lib.hid (fun W h1 h2 h3 => Wrap_any ((pubS x : Nat) : Int) K HKL.out hd b ah p ch a m cap W h1 h2 h3 HPL.out)
  rw [n1, n2, hX] at KU
  have KN := Lib.hid (fun a5 c5 W h1 h2 h3 => Unwrap_any ((x : Nat) : Int) hd X ((u : Nat) : Int) ah p ch a5 (m + 16) c5 W h1 h2 h3 HPL.out)
  rw [n5, n6] at KN
  have KC := Lib.hid (fun a5 c5 W => wCheck_any ((u : Nat) : Int) a5 (m + 16) c5 W)
  rw [n4] at KC
  have HN := Lib.hid n3
  unfold wrV at KN KC
  have HEX1 := Lib.hid (fun i hi => unwraps_changed HXB.out.1 HXB.out.2 K hd HBL.out i hi cy HCY.out)
  rw [hu, hX] at HEX1
  have HEX2 := Lib.hid (fun c (hc : c.length < 16) => unwraps_short HXB.out.1 HXB.out.2 hd ((u : Nat) : Int) (c := c) hc)
  have KM := Lib.hid (fun Y aY cY W h1 h2 h3 => Unwrap_any ((x : Nat) : Int) hd Y ((u : Nat) : Int) ah p ch aY (m + 16) cY W h1 h2 h3 HPL.out)
  have KZ := Lib.hid (fun Y aY cY W h1 h2 h3 => Unwrap_any ((x : Nat) : Int) hd Y ((u : Nat) : Int) ah p ch aY 15 cY W h1 h2 h3 HPL.out)
  unfold wrV at KM KZ
  clear hu hX n1 n2 n3 n4 n5 n6 KN KC
  generalize pubS x = pk at *
  go_wp2_with (first
    | (go_at_call 10; with_reducible refine (KY.out _).mono ?_; rintro e w4 ⟨rfl, hw⟩; rw [hw]; clear hw w4)
    | (go_at_call 11; refine (KP.out _).mono ?_; rintro e w4 ⟨rfl, hb⟩; refine Hid.out ?_))
  refine Lib.hid ?_
  have HS4 := Lib.hid (HS3.out.call hb)
  have HK4 := Lib.hid (HK3.out.below hb HK3.out.lt)
  clear hb HS3 HK3 KY KP
  go_wp2_with (refine wpList_load_row rfl 23 (.tmp 7) rfl w.heap.size rfl _ (bvA K) (0, 0) _ HK4.out Tryd.underlying23 rfl HSZ.out ?_)
  refine (KU.out _ HS4.out.tab (HH.out.call HS4.out.below) (HL.out.call HS4.out.below)).mono ?_
  rintro e w5 hA
  obtain ⟨a5, c5, rfl, ho5, hb⟩ := hA.open
  rw [HN.out] at ho5 ⊢
  have HS5 := Lib.hid ((HS4.out.call hb).alloc (.cells #[.int .i64 (u : Nat), .slice a5 (m + 16) c5] 32))
  have HC5 := Lib.hid (CB.new w5 32 #[.int .i64 (u : Nat), .slice a5 (m + 16) c5])
  have HK5x : Hid (BB (w5.alloc (.cells #[.int .i64 (u : Nat), .slice a5 (m + 16) c5] 32)) w.heap.size 23 K) := Lib.hid ((HK4.out.below hb HK4.out.lt).alloc _)
  have HR5 := Lib.hid (ho5.rdv.call ((Below.refl w5.heap.size w5).alloc (Nat.le_refl _) (.cells #[.int .i64 (u : Nat), .slice a5 (m + 16) c5] 32)))
  clear hA ho5 hb HS4 HK4 KU
  clear HK5x
  have im : (m : Int) ≤ 600 := by have := HF.out; omega
  have iw : IntKind.i64.wrap ((m : Int) + 16) = (m : Int) + 16 := IntWalk.i64_in _ (by omega)
  have d1 : (w5.alloc (.cells #[.int .i64 (u : Nat), .slice a5 (m + 16) c5] 32)).cell? ⟨w5.heap.size, 1, none⟩ = some (.slice a5 (m + 16) c5) := HC5.out.cell 1
  go_wp2_with fail
  clear d1 fcy
  obtain ⟨w6, hw6⟩ : ∃ w6, w5.alloc (.cells #[.int .i64 (u : Nat), .slice a5 (m + 16) c5] 32) = w6 := ⟨_, rfl⟩
  rw [hw6] at HS5 HC5 HR5 ⊢
  clear hw6
  have HC6 := HC5
  have HR6 := HR5
  have HS6 := HS5
  clear HC5 HR5 HS5
  have hS6 : w6.cell? ⟨w5.heap.size, 0, none⟩ = some (.int .i64 (u : Nat)) ∧ w6.cell? ⟨w5.heap.size, 1, none⟩ = some (.slice a5 (m + 16) c5) := ⟨HC6.out.cell 0, HC6.out.cell 1⟩
  have HSB : Hid (∀ W, Below w6.heap.size w6 W → W.cell? ⟨w5.heap.size, 0, none⟩ = some (.int .i64 (u : Nat)) ∧ W.cell? ⟨w5.heap.size, 1, none⟩ = some (.slice a5 (m + 16) c5)) := Lib.hid (fun W hW => ⟨(HC6.out.call hW).cell 0, (HC6.out.call hW).cell 1⟩)
  have HRX : Hid (∀ W, Below w6.heap.size w6 W → RdV W (.slice a5 (m + 16) c5) X) := Lib.hid (fun W hW => HR6.out.call hW)
  have HLX : Hid (([] : List UInt8).length + X.length ≤ 140737488355328) := Lib.hid (by rw [HN.out, List.length_nil]; have := HF.out; omega)
  clear hS6
  rename_i K0 hK0
  refine region_writes [60, 61, 62, 63, 64, 65, 66, 18] (fun f W => ∃ g aY cY, f 18 = .pointer (some ⟨g, 0, none⟩) ∧ CB W g 32 #[.int .i64 (u : Nat), .slice aY (m + 16) cY] ∧ OwnB w6.heap.size W (.slice aY (m + 16) cY) X ∧ w6.heap.size ≤ g ∧ (Value.slice aY (m + 16) cY).ownBlock ≠ some g ∧ Below w6.heap.size w6 W) ?_ ?_
  rotate_left
  · clear hK0 K0
    have HE : Hid (Below w6.heap.size w6 w6.drew) := Lib.hid ((Below.refl _ _).drew)
    refine wp_region_held_drew (S := fun W => W.cell? ⟨w5.heap.size, 0, none⟩ = some (.int .i64 (u : Nat)) ∧ W.cell? ⟨w5.heap.size, 1, none⟩ = some (.slice a5 (m + 16) c5)) (by kernel_rfl) (HSB.out _ HE.out) (fun hHeld => ?_)
    refine wpAnyH_take (i := 0) (v := .pointer (some ⟨w5.heap.size, 0, none⟩)) rfl (by kernel_rfl) (by kernel_rfl) (by kernel_rfl) (fun _ _ _ h => nomatch h.1) (Or.inl ⟨by rfl, fun w _ => by go_simp⟩) hHeld ?_
    simp only [Act.put, List.getElem_toArray, List.getElem_cons_zero, List.getElem_cons_succ, List.setIfInBounds_toArray, List.set_cons_zero, List.set_cons_succ]
    refine wpAnyH_take (i := 1) (v := .int .i64 (u : Nat)) rfl (by kernel_rfl) (by kernel_rfl) (by kernel_rfl) (fun _ _ _ h => nomatch h.1) (Or.inl ⟨by rfl, fun w hw => by obtain ⟨h1, h2⟩ := hw; go_simp⟩) hHeld ?_
    simp only [Act.put, List.getElem_toArray, List.getElem_cons_zero, List.getElem_cons_succ, List.setIfInBounds_toArray, List.set_cons_zero, List.set_cons_succ]
    refine wpAnyH_take (i := 3) (v := .pointer (some ⟨w5.heap.size, 1, none⟩)) rfl (by kernel_rfl) (by kernel_rfl) (by kernel_rfl) (fun _ _ _ h => nomatch h.1) (Or.inl ⟨by rfl, fun w _ => by go_simp⟩) hHeld ?_
    simp only [Act.put, List.getElem_toArray, List.getElem_cons_zero, List.getElem_cons_succ, List.setIfInBounds_toArray, List.set_cons_zero, List.set_cons_succ]
    refine wpAnyH_take (i := 4) (v := .slice a5 (m + 16) c5) rfl (by kernel_rfl) (by kernel_rfl) (by kernel_rfl) (fun _ _ _ h => nomatch h.1) (Or.inl ⟨by rfl, fun w hw => by obtain ⟨h1, h2⟩ := hw; go_simp⟩) hHeld ?_
    simp only [Act.put, List.getElem_toArray, List.getElem_cons_zero, List.getElem_cons_succ, List.setIfInBounds_toArray, List.set_cons_zero, List.set_cons_succ]
    refine wpAnyH_ready (rs := [2, 7]) (by kernel_rfl) (by simp) (AllReadyH.cons rfl (fun K hK => ?_) (AllReadyH.cons rfl (fun K hK => ?_) AllReadyH.nil))
    · rw [if_pos (by rfl)]
      refine wp_nilB0 rfl ?_
      intro W2 g2 ho hg2 hz hb
      have HO := Lib.hid (ho.mono HE.out.size)
      replace HE := Lib.hid (HE.out.trans (hb.mono HE.out.size))
      clear ho hg2 hz hb
      refine hK.out _ _ (HSB.out _ HE.out) (fun hHeld => ?_)
      clear hK K
      try simp only [Act.put, List.getElem_toArray, List.getElem_cons_zero, List.getElem_cons_succ, List.setIfInBounds_toArray, List.set_cons_zero, List.set_cons_succ]
      refine wpAnyH_ready (rs := [5, 7]) (by kernel_rfl) (by simp) (AllReadyH.cons rfl (fun K hK => ?_) (AllReadyH.cons rfl (fun K hK => ?_) AllReadyH.nil))
      · rw [if_pos (by rfl)]
        obtain ⟨a', c', he, g1, g2', g3, g4⟩ := (HRX.out _ HE.out).form
        injection he with e1 e2 e3
        subst e1; subst e3; clear e2
        refine wp_appB (.tmp 62) (.tmp 64) rfl w6.heap.size _ [] X _ _ rfl HO.out (by rw [HN.out]; rfl) g1 g4 HLX.out HE.out.size ?_
        intro v5 W5 ho5 hg5
        replace HE := Lib.hid (HE.out.trans (hg5.below (fun r hr => HO.out.base r hr) HE.out.size))
        rw [List.nil_append] at ho5
        clear hg5 HO g1 g2' g3 g4
        obtain ⟨aY, cY, rfl, -, -⟩ := ho5.form
        rw [HN.out] at ho5 ⊢
        have HO := Lib.hid ho5
        clear ho5
        refine hK.out _ _ (HSB.out _ HE.out) (fun hHeld => ?_)
        clear hK K
        try simp only [Act.put, List.getElem_toArray, List.getElem_cons_zero, List.getElem_cons_succ, List.setIfInBounds_toArray, List.set_cons_zero, List.set_cons_succ]
        refine wpAnyH_take (i := 6) (v := .agg #[.int .i64 (u : Nat), .slice aY (m + 16) cY]) rfl (by kernel_rfl) (by kernel_rfl) (by kernel_rfl) (fun _ _ _ h => nomatch h.1) (Or.inl ⟨by rfl, fun w _ => by go_simp⟩) hHeld ?_
        simp only [Act.put, List.getElem_toArray, List.getElem_cons_zero, List.getElem_cons_succ, List.setIfInBounds_toArray, List.set_cons_zero, List.set_cons_succ]
        refine wpAnyH_ready (rs := [7]) (by kernel_rfl) (by simp) (AllReadyH.cons rfl (fun K hK => ?_) AllReadyH.nil)
        rw [if_pos (by rfl)]
        refine wp_allocW rfl ?_
        intro W7 gA hn hge hb
        have hne := fun e => (by have h1 := (World.ownsRow.lt HO.out gA e).2; omega : False)
        replace HO := Lib.hid (HO.out.below hb)
        have HC := Lib.hid hn
        have hA : w6.heap.size ≤ gA := Nat.le_trans HE.out.size hge
        replace HE := Lib.hid (HE.out.trans (hb.mono HE.out.size))
        clear hn hge hb
        refine hK.out _ _ (HSB.out _ HE.out) (fun hHeld => ?_)
        clear hK K
        try simp only [Act.put, List.getElem_toArray, List.getElem_cons_zero, List.getElem_cons_succ, List.setIfInBounds_toArray, List.set_cons_zero, List.set_cons_succ]
        refine wpAnyH_ready (rs := [8]) (by kernel_rfl) (by simp) (AllReadyH.cons rfl (fun K hK => ?_) AllReadyH.nil)
        rw [if_pos (by rfl)]
        refine wp_storeA 32 (.tmp 18) (.tmp 66) rfl gA #[.int .i64 (u : Nat), .slice aY (m + 16) cY] rfl rfl 32 _ HC.out (by kernel_rfl) rfl (by simp [Value.oneCell']) ?_
        intro W8 hn hg8
        have HO8 := Lib.hid (HO.out.grownO hg8 hne)
        have HE8 := Lib.hid (grown_below HE.out hg8 hA HE.out.size)
        refine hK.out _ _ (HSB.out _ HE8.out) (fun hHeld => ?_)
        clear hK K
        refine wpAnyH_done (by kernel_rfl) ?_ _
        exact ⟨rfl, writes_ex (by kernel_rfl) ⟨gA, aY, cY, rfl, hn, HO8.out, hA, hne, HE8.out⟩⟩
      · rw [if_pos (by rfl)]
        refine wp_allocW rfl ?_
        intro W7 gA hn hge hb
        have hne := fun e => (by have h1 := (World.ownsRow.lt HO.out gA e).2; omega : False)
        replace HO := Lib.hid (HO.out.below hb)
        have HC := Lib.hid hn
        have hA : w6.heap.size ≤ gA := Nat.le_trans HE.out.size hge
        replace HE := Lib.hid (HE.out.trans (hb.mono HE.out.size))
        clear hn hge hb
        refine hK.out _ _ (HSB.out _ HE.out) (fun hHeld => ?_)
        clear hK K
        try simp only [Act.put, List.getElem_toArray, List.getElem_cons_zero, List.getElem_cons_succ, List.setIfInBounds_toArray, List.set_cons_zero, List.set_cons_succ]
        refine wpAnyH_ready (rs := [5]) (by kernel_rfl) (by simp) (AllReadyH.cons rfl (fun K hK => ?_) AllReadyH.nil)
        rw [if_pos (by rfl)]
        obtain ⟨a', c', he, g1, g2', g3, g4⟩ := (HRX.out _ HE.out).form
        injection he with e1 e2 e3
        subst e1; subst e3; clear e2
        refine wp_appB (.tmp 62) (.tmp 64) rfl w6.heap.size _ [] X _ _ rfl HO.out (by rw [HN.out]; rfl) g1 g4 HLX.out HE.out.size ?_
        intro v5 W5 ho5 hg5
        have hne5 : v5.ownBlock ≠ some gA := hg5.ne hne HC.out.lt
        have HC' : Hid (CB W5 gA 32 #[.int .i64 0, .slice none 0 0]) := Lib.hid ((hg5.grown.block gA HC.out.lt (Ne.symm hne)).trans HC.out)
        clear HC hne
        have HC := HC'
        clear HC'
        replace HE := Lib.hid (HE.out.trans (hg5.below (fun r hr => HO.out.base r hr) HE.out.size))
        rw [List.nil_append] at ho5
        clear hg5 HO g1 g2' g3 g4
        obtain ⟨aY, cY, rfl, -, -⟩ := ho5.form
        rw [HN.out] at ho5 hne5 ⊢
        have HO := Lib.hid ho5
        clear ho5
        have hne := hne5
        clear hne5
        refine hK.out _ _ (HSB.out _ HE.out) (fun hHeld => ?_)
        clear hK K
        try simp only [Act.put, List.getElem_toArray, List.getElem_cons_zero, List.getElem_cons_succ, List.setIfInBounds_toArray, List.set_cons_zero, List.set_cons_succ]
        refine wpAnyH_take (i := 6) (v := .agg #[.int .i64 (u : Nat), .slice aY (m + 16) cY]) rfl (by kernel_rfl) (by kernel_rfl) (by kernel_rfl) (fun _ _ _ h => nomatch h.1) (Or.inl ⟨by rfl, fun w _ => by go_simp⟩) hHeld ?_
        simp only [Act.put, List.getElem_toArray, List.getElem_cons_zero, List.getElem_cons_succ, List.setIfInBounds_toArray, List.set_cons_zero, List.set_cons_succ]
        refine wpAnyH_ready (rs := [8]) (by kernel_rfl) (by simp) (AllReadyH.cons rfl (fun K hK => ?_) AllReadyH.nil)
        rw [if_pos (by rfl)]
        refine wp_storeA 32 (.tmp 18) (.tmp 66) rfl gA #[.int .i64 (u : Nat), .slice aY (m + 16) cY] rfl rfl 32 _ HC.out (by kernel_rfl) rfl (by simp [Value.oneCell']) ?_
        intro W8 hn hg8
        have HO8 := Lib.hid (HO.out.grownO hg8 hne)
        have HE8 := Lib.hid (grown_below HE.out hg8 hA HE.out.size)
        refine hK.out _ _ (HSB.out _ HE8.out) (fun hHeld => ?_)
        clear hK K
        refine wpAnyH_done (by kernel_rfl) ?_ _
        exact ⟨rfl, writes_ex (by kernel_rfl) ⟨gA, aY, cY, rfl, hn, HO8.out, hA, hne, HE8.out⟩⟩
    · rw [if_pos (by rfl)]
      refine wp_allocW rfl ?_
      intro W7 gA hn hge hb
      have HC := Lib.hid hn
      have hA : w6.heap.size ≤ gA := Nat.le_trans HE.out.size hge
      replace HE := Lib.hid (HE.out.trans (hb.mono HE.out.size))
      clear hn hge hb
      refine hK.out _ _ (HSB.out _ HE.out) (fun hHeld => ?_)
      clear hK K
      try simp only [Act.put, List.getElem_toArray, List.getElem_cons_zero, List.getElem_cons_succ, List.setIfInBounds_toArray, List.set_cons_zero, List.set_cons_succ]
      refine wpAnyH_ready (rs := [2]) (by kernel_rfl) (by simp) (AllReadyH.cons rfl (fun K hK => ?_) AllReadyH.nil)
      rw [if_pos (by rfl)]
      refine wp_nilB0 rfl ?_
      intro W2 g2 ho hg2 hz hb
      have hne : (Value.slice (some ⟨g2, 0, none⟩) 0 0).ownBlock ≠ some gA := fun e => by have e' : some g2 = some gA := e; injection e' with e'; have h1 := HC.out.lt; omega
      replace HC := Lib.hid (HC.out.call hb)
      have HO := Lib.hid (ho.mono HE.out.size)
      replace HE := Lib.hid (HE.out.trans (hb.mono HE.out.size))
      clear ho hg2 hz hb
      refine hK.out _ _ (HSB.out _ HE.out) (fun hHeld => ?_)
      clear hK K
      try simp only [Act.put, List.getElem_toArray, List.getElem_cons_zero, List.getElem_cons_succ, List.setIfInBounds_toArray, List.set_cons_zero, List.set_cons_succ]
      refine wpAnyH_ready (rs := [5]) (by kernel_rfl) (by simp) (AllReadyH.cons rfl (fun K hK => ?_) AllReadyH.nil)
      rw [if_pos (by rfl)]
      obtain ⟨a', c', he, g1, g2', g3, g4⟩ := (HRX.out _ HE.out).form
      injection he with e1 e2 e3
      subst e1; subst e3; clear e2
      refine wp_appB (.tmp 62) (.tmp 64) rfl w6.heap.size _ [] X _ _ rfl HO.out (by rw [HN.out]; rfl) g1 g4 HLX.out HE.out.size ?_
      intro v5 W5 ho5 hg5
      have hne5 : v5.ownBlock ≠ some gA := hg5.ne hne HC.out.lt
      have HC' : Hid (CB W5 gA 32 #[.int .i64 0, .slice none 0 0]) := Lib.hid ((hg5.grown.block gA HC.out.lt (Ne.symm hne)).trans HC.out)
      clear HC hne
      have HC := HC'
      clear HC'
      replace HE := Lib.hid (HE.out.trans (hg5.below (fun r hr => HO.out.base r hr) HE.out.size))
      rw [List.nil_append] at ho5
      clear hg5 HO g1 g2' g3 g4
      obtain ⟨aY, cY, rfl, -, -⟩ := ho5.form
      rw [HN.out] at ho5 hne5 ⊢
      have HO := Lib.hid ho5
      clear ho5
      have hne := hne5
      clear hne5
      refine hK.out _ _ (HSB.out _ HE.out) (fun hHeld => ?_)
      clear hK K
      try simp only [Act.put, List.getElem_toArray, List.getElem_cons_zero, List.getElem_cons_succ, List.setIfInBounds_toArray, List.set_cons_zero, List.set_cons_succ]
      refine wpAnyH_take (i := 6) (v := .agg #[.int .i64 (u : Nat), .slice aY (m + 16) cY]) rfl (by kernel_rfl) (by kernel_rfl) (by kernel_rfl) (fun _ _ _ h => nomatch h.1) (Or.inl ⟨by rfl, fun w _ => by go_simp⟩) hHeld ?_
      simp only [Act.put, List.getElem_toArray, List.getElem_cons_zero, List.getElem_cons_succ, List.setIfInBounds_toArray, List.set_cons_zero, List.set_cons_succ]
      refine wpAnyH_ready (rs := [8]) (by kernel_rfl) (by simp) (AllReadyH.cons rfl (fun K hK => ?_) AllReadyH.nil)
      rw [if_pos (by rfl)]
      refine wp_storeA 32 (.tmp 18) (.tmp 66) rfl gA #[.int .i64 (u : Nat), .slice aY (m + 16) cY] rfl rfl 32 _ HC.out (by kernel_rfl) rfl (by simp [Value.oneCell']) ?_
      intro W8 hn hg8
      have HO8 := Lib.hid (HO.out.grownO hg8 hne)
      have HE8 := Lib.hid (grown_below HE.out hg8 hA HE.out.size)
      refine hK.out _ _ (HSB.out _ HE8.out) (fun hHeld => ?_)
      clear hK K
      refine wpAnyH_done (by kernel_rfl) ?_ _
      exact ⟨rfl, writes_ex (by kernel_rfl) ⟨gA, aY, cY, rfl, hn, HO8.out, hA, hne, HE8.out⟩⟩
  rintro f W ⟨gY, aY, cY, e18, hC, hO, hgY, hne, hbW⟩
  have HRW := Lib.hid (HRX.out W hbW)
  have HCW := Lib.hid (HC6.out.call hbW)
  have HSW := Lib.hid (HS6.out.call hbW)
  have HYB := Lib.hid hC
  obtain ⟨gB, rfl⟩ : ∃ gB, aY = some ⟨gB, 0, none⟩ := by
    obtain ⟨a', c', e, h1, -⟩ := hO.form
    injection e with e1 e2 e3
    rcases h1 with ⟨-, -, h⟩ | ⟨g', h, -⟩
    · have := HN.out; rw [h] at this; simp at this
    · exact ⟨g', e1.trans h⟩
  have HNE : Hid (gY ≠ gB) := Lib.hid (fun e => hne (by rw [e]; rfl))
  rw [← HN.out] at hO
  have HO := Lib.hid hO
  obtain ⟨i, hi0⟩ : ∃ i, ay.toNat % 16 = i := ⟨_, rfl⟩
  have hi : i < 16 := by omega
  have HI := Lib.hid hi
  have ck := HO.out.cellAt (m + i) (by rw [HN.out]; omega)
  have fk := HO.out.frozenAt (m + i)
  have HST := Lib.hid (HO.out.stored (m + i) (X.getD (m + i) 0 ^^^ cy))
  have HEX := Lib.hid (HEX1.out i hi)
  rw [← HM.out] at HEX
  have e0 : X[m + i]'(by rw [HN.out]; omega) = X.getD (m + i) 0 := by rw [List.getD_eq_getElem?_getD, List.getElem?_eq_getElem (by rw [HN.out]; omega)]; rfl
  rw [e0] at ck
  have hxr := bv_xor (X.getD (m + i) 0) cy
  have HXR := Lib.hid hxr
  obtain ⟨z, hz⟩ : ∃ z, X.getD (m + i) 0 ^^^ cy = z := ⟨_, rfl⟩
  rw [hz] at hxr HST HEX
  generalize X.getD (m + i) 0 = yi at *
  unfold bv at ck
  have d1 : W.cell? ⟨gY, 1, none⟩ = some (.slice (some ⟨gB, 0, none⟩) (m + 16) cY) := HYB.out.cell 1
  clear hC hO hne e0 hz HXR
  have hay : ay.toNat < 256 := ay.toNat_lt
  have v1 : wrap64 ((ay.toNat : Nat) : Int) = ((ay.toNat : Nat) : Int) := by unfold wrap64; omega
  have v2 : ((ay.toNat : Nat) : Int).tmod 16 = (i : Int) := by rw [Int.tmod_eq_emod_of_nonneg (by omega)]; omega
  have v3 : wrap64 ((m : Int) + (i : Int)) = (m : Int) + (i : Int) := by unfold wrap64; omega
  have v4 : (i : Int) < 16 := by omega
  have v5 : (0 : Int) ≤ (m : Int) + (i : Int) := Int.add_nonneg (Int.natCast_nonneg _) (Int.natCast_nonneg _)
  have v6 : (m : Int) + (i : Int) < (m : Int) + 16 := Int.add_lt_add_left v4 _
  have v7 : ((m : Int) + (i : Int)).toNat = m + i := by rw [← Int.natCast_add, Int.toNat_natCast]
  have HY7 := Lib.hid (HYB.out.setO HNE.out (m + i) (bv z))
  have d2 : (W.setCell ⟨gB, m + i, none⟩ (.int .u8 (z.toNat : Int))).cell? ⟨gY, 0, none⟩ = some (.int .i64 (u : Nat)) := HY7.out.cell 0
  have d3 : (W.setCell ⟨gB, m + i, none⟩ (.int .u8 (z.toNat : Int))).cell? ⟨gY, 1, none⟩ = some (.slice (some ⟨gB, 0, none⟩) (m + 16) cY) := HY7.out.cell 1
  have HB7 : Hid (Below w6.heap.size w6 (W.setCell ⟨gB, m + i, none⟩ (.int .u8 (z.toNat : Int)))) := Lib.hid (hbW.setCell (p := ⟨gB, m + i, none⟩) (HO.out.base _ rfl) _)
  clear hi0 hay
  refine hK0 _ _ ?_
  simp only [writes, List.foldl_cons, List.foldl_nil, Act.put, List.setIfInBounds_toArray, List.set_cons_zero, List.set_cons_succ]
  rw [e18]
  go_wp2_with fail
  clear d1 d2 d3 v1 v2 v3 v5 v6 v7 ck fk hxr v4
  have hHO7 := HST.out
  rw [HN.out] at hHO7
  have HR7 := Lib.hid hHO7.rdv
  have HS7 : Hid (SnW w (W.setCell ⟨gB, m + i, none⟩ (.int .u8 (z.toNat : Int)))) := Lib.hid (HS6.out.call HB7.out)
  have HC7 := Lib.hid (HC6.out.call HB7.out)
  have HRX7 := Lib.hid (HRX.out _ HB7.out)
  clear hHO7 HST HB7 HY7 HO HYB HRW HCW HSW HRX HSB HLX HC6 HR6 HS6
  have hu := KM.out (X.set (m + i) z) (some ⟨gB, 0, none⟩) cY (W.setCell ⟨gB, m + i, none⟩ (.int .u8 (z.toNat : Int))) HS7.out.tab (HH.out.call HS7.out.below) HR7.out
  rw [HEX.out] at hu
  have HU := Lib.hid hu
  clear hu HEX KM HR7
  generalize W.setCell ⟨gB, m + i, none⟩ (.int .u8 (z.toNat : Int)) = W7 at *
  refine HU.out.mono ?_
  rintro e w8 hA
  obtain ⟨a8, c8, rfl, -, hb⟩ := hA.open
  have HS8 := Lib.hid (HS7.out.call hb)
  have HC8 := Lib.hid (HC7.out.call hb)
  have HRX8 := Lib.hid (HRX7.out.call hb)
  clear hA hb HS7 HC7 HRX7 HU
  obtain ⟨b5, o5, hb5, -, -⟩ := HRX8.out.cell (by omega)
  subst hb5
  have hcap := HRX8.out.caps
  have HDR : Hid (RdV w8 (.slice (some ⟨b5, o5 + (m + 1), none⟩) 15 (c5 - (m + 1))) (X.drop (m + 1))) := Lib.hid (by
    obtain ⟨a', c', e, h1, h2, h3, h4⟩ := HRX8.out.form
    injection e with e1 e2 e3
    subst e1; subst e3
    exact ⟨_, _, by rw [List.length_drop, HN.out]; congr 1; omega, h1.drop (m + 1), by rw [List.length_drop, HN.out]; omega, by omega, fun e => by cases e⟩)
  have hk := HEX2.out (X.drop (m + 1)) (by rw [List.length_drop, HN.out]; omega)
  have KZ2 := Lib.hid (fun W h1 h2 h3 => KZ.out (X.drop (m + 1)) (some ⟨b5, o5 + (m + 1), none⟩) (c5 - (m + 1)) W h1 h2 h3)
  rw [hk.1, hk.2] at KZ2
  clear hk KZ HEX2
  have iw1 : IntKind.i64.wrap ((m : Int) + 1) = (m : Int) + 1 := IntWalk.i64_in _ (by omega)
  have j1 : (0 : Int) ≤ (m : Int) + 1 := by omega
  have j2 : (m : Int) + 1 ≤ (m : Int) + 16 := by omega
  have j3 : ((m : Int) + 1).toNat = m + 1 := by omega
  have j4 : ¬ c5 = m + 1 := by omega
  have j5 : m + 16 - (m + 1) = 15 := by omega
  have j6 : (m : Int) + 16 ≤ (c5 : Int) := by omega
  have j7 : max ((m : Int) + 1) 0 = (m : Int) + 1 := by omega
  have HSB8 : Hid (∀ W, Below w8.heap.size w8 W → W.cell? ⟨w5.heap.size, 0, none⟩ = some (.int .i64 (u : Nat)) ∧ W.cell? ⟨w5.heap.size, 1, none⟩ = some (.slice (some ⟨b5, o5, none⟩) (m + 16) c5)) := Lib.hid (fun W hW => ⟨(HC8.out.call hW).cell 0, (HC8.out.call hW).cell 1⟩)
  have hS8 := HSB8.out w8.drew ((Below.refl _ _).drew)
  clear im iw hcap
  go_wp2_with fail
  go_region_held3 (fun w' => w'.cell? ⟨w5.heap.size, 0, none⟩ = some (.int .i64 (u : Nat)) ∧ w'.cell? ⟨w5.heap.size, 1, none⟩ = some (.slice (some ⟨b5, o5, none⟩) (m + 16) c5))
    (first
      | exact hS9
      | exact hS8)
    (first
      | (go_at_call 13
         with_reducible refine (KZ2.out w8.drew ((HS8.out.call ((Below.refl w8.heap.size w8).drew)).tab) (HH.out.call (HS8.out.below.drew)) (HDR.out.call ((Below.refl w8.heap.size w8).drew))).mono ?_
         rintro e w9 hA
         obtain ⟨a9, c9, rfl, -, hb⟩ := hA.open
         have hS9 := HSB8.out w9 (((Below.refl w8.heap.size w8).drew).trans hb)
         have HS9 := Lib.hid ((HS8.out.call ((Below.refl w8.heap.size w8).drew)).call hb)
         clear hA hb))
  go_wp2_with fail
  go_ret
  exact ⟨rfl, HS9.out.below⟩
end Go.Proofs.YtpnemdhbdncknaaDoor
