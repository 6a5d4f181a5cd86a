/-
  The walk of DeriveHashed (chartroomlaw07).
-/
import Derived.Test.YthcbnanohjkllaaDoorDm
import Derived.Test.YthcbnanohjkllaaDoorPkL
namespace Go.Proofs.YthcbnanohjkllaaDoor
open Go.RowKit
set_option linter.unusedVariables false
set_option linter.unusedSimpArgs false

theorem dec_open {w w' : World} {v : Val} {e : Ending} (h : DecPost w (some v) e w') : ∃ a cap, e = .returned (.tuple #[.agg #[.int .i64 v.k, .int .i64 v.n, .string v.s, .slice a v.kids.len cap], .int .i64 0]) ∧ RepS w'.heap.size w' a cap v.kids ∧ Below w.heap.size w w' := by
  rcases h with ⟨v', a, cap, hv, he, _, _, _, hq, hb⟩ | ⟨hv, _⟩
  · cases hv
    exact ⟨a, cap, he, hq.toS (B := w'.heap.size) (fun k hk => hk.2), hb⟩
  · cases hv

set_option maxRecDepth 100000 in
set_option maxHeartbeats 4000000 in
theorem hashed_walk7 (K : List UInt8) (hK : K.length = 32) (s : ByteArray) (hs : s.size ≤ maxLen) (a : Option Addr) (cap : Nat) (ns : List Int) (w : World) (hr : RdM w.heap.size w a ns) (hI : ∀ n ∈ ns, I64 n) (hT : Tab w) :
    Calls Tryd.prog 7 #[.agg (bvA K), .string s, .slice a ns.length cap] w fun e w' => e = .returned (.bool true) ∧ Below w.heap.size w w' := by
  have HT := Lib.hid hT
  have HLK := Lib.hid hK
  have HR := Lib.hid hr
  have HI := Lib.hid hI
  have HMS := Lib.hid hs
  have HKB1 := Lib.hid ((KB.start w).box K hK)
  have HTK := Lib.hid (kidsS_take s ns)
  have HTN : Hid (kidsS s (ns.take ns.length) = kidsS s ns) := Lib.hid (by rw [List.take_length])
  have HLEN := Lib.hid (kidsS_len s ns)
  obtain ⟨q, hq⟩ : ∃ q, ns.length = q := ⟨_, rfl⟩
  have HQ := Lib.hid hq
  rw [hq] at HTN ⊢
  clear hT hK hr hI hs hq
  go_enter Tryd.func7, Tryd.ntmps7
  go_wp2_with (go_at_call 10; refine (dsane_any _ (HT.out.below HKB1.out.below HT.out.lt)).mono ?_; rintro e w2 ⟨rfl, hb⟩; refine Hid.out ?_)
  refine Lib.hid ?_
  have HKB2 := Lib.hid (HKB1.out.call hb)
  clear hb HKB1
  obtain ⟨g1, hg1⟩ : ∃ g1, w.heap.size = g1 := ⟨_, rfl⟩
  rw [hg1] at HKB2 ⊢
  have HG1 := Lib.hid hg1
  clear hg1
  by_cases hl : 500 < s.size
  · have f1 : decide ((500 : Int) < (s.size : Int)) = true := decide_eq_true (by omega)
    go_wp2_with fail
    go_ret
    exact ⟨rfl, HG1.out ▸ HKB2.out.below⟩
  have f1 : decide ((500 : Int) < (s.size : Int)) = false := decide_eq_false (by omega)
  by_cases hl2 : 40 < q
  · have f2 : decide ((40 : Int) < (q : Int)) = true := decide_eq_true (by omega)
    go_wp2_with fail
    go_ret
    exact ⟨rfl, HG1.out ▸ HKB2.out.below⟩
  have f2 : decide ((40 : Int) < (q : Int)) = false := decide_eq_false (by omega)
  have i1 : (q : Int) ≤ 40 := by omega
  have HPL : Hid ((purpS s ns).length ≤ 1000) := Lib.hid (by have := purpS_len s ns; have := HQ.out; omega)
  have HEX := Lib.hid (fun W h1 h2 => Expand_any K HLK.out s a cap ns W h1 (by omega) h2 (by have := HQ.out; omega) HI.out)
  have HEN := Lib.hid (fun (a : Option Addr) (cap : Nat) (W : World) (h : RepS W.heap.size W a cap (kidsS s ns)) => encode_ok W.heap.size 3 0 ByteArray.empty a cap (kidsS s ns) W (by rw [kidsS_sz]; have := HQ.out; omega) (by have := kidsS_vsize s ns; have := HQ.out; omega) ⟨by omega, by omega⟩ ⟨by omega, by omega⟩ empty_le2 h (Nat.le_refl _) (kidsS_chk s ns))
  have HDC := Lib.hid (dec_purp s (by omega) ns HI.out (by have := HQ.out; omega))
  have HSM := Lib.hid (fun (a : Option Addr) (cap : Nat) (a' : Option Addr) (cap' : Nat) (W : World) (h1 : RepS W.heap.size W a cap (kidsS s ns)) (h2 : RepS W.heap.size W a' cap' (kidsS s ns)) => same_any (kidsS s ns).sz W.heap.size 3 0 ByteArray.empty a cap (kidsS s ns) 3 0 ByteArray.empty a' cap' (kidsS s ns) W (Nat.le_refl _) h1 h2 (Nat.le_refl _))
  have HVS : Hid (vsame 3 0 ByteArray.empty (kidsS s ns) 3 0 ByteArray.empty (kidsS s ns) = true) := Lib.hid ((vsame_iff ..).2 ⟨rfl, rfl, rfl, rfl⟩)
  rw [HVS.out] at HSM
  have HXE : Hid (expS K s ns = tagS tagDerive (K ++ purpS s ns)) := Lib.hid rfl
  have HLE := Lib.hid (expS_len K s ns)
  rw [HQ.out] at HEX
  obtain ⟨P, hP⟩ : ∃ P, purpS s ns = P := ⟨_, rfl⟩
  have HEN2 : Hid (∀ (a : Option Addr) (cap : Nat) (W : World) (h : RepS W.heap.size W a cap (kidsS s ns)), Calls Tryd.prog 21 #[.agg #[.int .i64 3, .int .i64 0, .string ByteArray.empty, .slice a (kidsS s ns).len cap]] W fun e w' => ∃ v, e = .returned (.tuple #[v, .int .i64 0]) ∧ OwnB W.heap.size w' v P ∧ Below W.heap.size W w') := Lib.hid (by rw [← hP]; exact HEN.out)
  rw [hP] at HPL HDC HXE
  clear HEN hP HVS
  generalize expS K s ns = XE at *
  obtain ⟨Q, hQ⟩ : ∃ Q, K ++ P = Q := ⟨_, rfl⟩
  rw [hQ] at HXE
  have HQL : Hid (Q.length = 32 + P.length) := Lib.hid (by rw [← hQ, List.length_append, HLK.out])
  have HQQ := Lib.hid hQ
  clear hQ
  have HS : Hid (s.size ≤ maxLen) := HMS
  have HO1 : Hid (OV w2.heap.size (w2.alloc (.cells #[.int .i64 2, .int .i64 0, .string s, .slice none 0 0] 40)) (.slice (some ⟨w2.heap.size, 0, none⟩) 1 1) (kidsS s (ns.take 0))) := Lib.hid (OV.one s HS.out (Nat.le_refl _))
  have HB1 : Hid (Below w2.heap.size w2 (w2.alloc (.cells #[.int .i64 2, .int .i64 0, .string s, .slice none 0 0] 40))) := Lib.hid ((Below.refl _ _).alloc (Nat.le_refl _) _)
  go_wp2_with fail
  go_loopw [7, 8] (fun v i wr => ∃ k : Nat, k ≤ q ∧ i = .int .i64 k ∧ OV w2.heap.size wr v (kidsS s (ns.take k)) ∧ Below w2.heap.size w2 wr) (fun _ i _ => q - (intOf i).toNat)
  case atStart => exact ⟨0, by omega, rfl, HO1.out, HB1.out⟩
  case round =>
    clear HO1 HB1
    obtain ⟨k, hk, rfl, ho, hb⟩ := hrel
    have HO := Lib.hid ho
    have HB := Lib.hid hb
    clear ho hb
    by_cases hlt : k < q
    · have hkl : k < ns.length := by rw [HQ.out]; exact hlt
      obtain ⟨b, o, rfl, hbB, hc⟩ := HR.out.at_ (by omega)
      have ck := ((HKB2.out.call HB.out).below.cell (p := ⟨b, o + k, none⟩) hbB).trans (hc k hkl)
      have HX := Lib.hid (HTK.out k hkl)
      have HIk := Lib.hid (HI.out _ (List.getElem_mem hkl))
      have HLk : Hid ((kidsS s (ns.take k)).len + 1 ≤ 2000000000000) := Lib.hid (by rw [kidsS_len, List.length_take]; omega)
      generalize ns[k] = nk at *
      clear hc
      go_wp2_with ((with_reducible show wpList _ _ _ (({ dst := some 39, op := _, type := _, pos := _, after := _, guard := _ } : Oper) :: _) _ _); go_must (refine wpList_appP rfl (.tmp 32) (.tmp 38) rfl w2.heap.size _ (kidsS s (ns.take k)) 1 nk ByteArray.empty _ rfl HO.out _ rfl (by simp) rfl ⟨by omega, by omega⟩ HIk.out empty_le2 HLk.out HB.out.size ?_))
      intro v4 w4 ho4 hb4
      rw [HX.out] at ho4
      have HO4 := Lib.hid ho4
      have HB4 := Lib.hid (HB.out.trans hb4)
      clear ho4 hb4 HO HB ck
      go_wp2_with fail
      go_roundw
      case rel => exact ⟨k + 1, by omega, by go_num, HO4.out, HB4.out⟩
      case measure => simp [intOf]; omega
    · obtain rfl : k = q := by omega
      rw [HTN.out] at HO
      have HKB3 := Lib.hid (HKB2.out.call HB.out)
      obtain ⟨a5, cap5, rfl, hrep⟩ := HO.out.rep
      have HRP := Lib.hid hrep
      clear hrep hlt HB HKB2
      go_wp2_with (go_at_call 21; refine (HEN2.out a5 cap5 _ HRP.out).mono ?_; rintro e w6 ⟨v6, rfl, ho6, hb⟩; refine Hid.out ?_)
      refine Lib.hid ?_
      have HKB4 := Lib.hid (HKB3.out.call hb)
      have HO6 := Lib.hid ho6
      have HOV6 := Lib.hid (HO.out.call hb)
      obtain ⟨a7, cap7, rfl, _, _⟩ := ho6.form
      clear ho6 hb HO HRP HKB3
      have hdc := decode_any w6.heap.size a7 cap7 P w6 HO6.out.rd (Nat.le_refl _) HO6.out.caps.1 HO6.out.caps.2 (by have := HPL.out; omega)
      rw [HDC.out] at hdc
      have HDD := Lib.hid hdc
      clear hdc
      go_wp2_with (go_at_call 23; refine HDD.out.mono ?_; intro e w8 hp; obtain ⟨a8, cap8, rfl, hq8, hb⟩ := dec_open hp; refine Hid.out ?_)
      refine Lib.hid ?_
      have HR8 := Lib.hid hq8
      have HKB5 := Lib.hid (HKB4.out.call hb)
      have HO8 := Lib.hid (HO6.out.below hb)
      have HOV8 := Lib.hid (HOV6.out.call hb)
      clear hq8 hb HKB4 HO6 HOV6 HDD
      have hb9 : Below w8.heap.size w8 (w8.alloc (.cells #[.int .i64 3, .int .i64 0, .string ByteArray.empty, .slice a8 (kidsS s ns).len cap8] 40)) := (Below.refl _ _).alloc (Nat.le_refl _) _
      have HKB6 := Lib.hid (HKB5.out.call hb9)
      have HO9 := Lib.hid (HO8.out.below hb9)
      have HOV9 := Lib.hid (HOV8.out.call hb9)
      have HR9 := Lib.hid ((HR8.out.below hb9).mono hb9.size)
      obtain ⟨a5', cap5', e5, hrep9⟩ := HOV9.out.rep
      injection e5 with e51 _ e53
      subst e51
      subst e53
      have HSS := Lib.hid (HSM.out a8 cap8 a5 cap5 _ HR9.out hrep9)
      clear hb9 hrep9 HKB5 HO8 HOV8 HR8 HR9 HOV9
      generalize (kidsS s ns).len = kl at *
      go_wp2_with (go_at_call 24; refine HSS.out.mono ?_; rintro e w10 ⟨rfl, hb⟩; refine Hid.out ?_)
      refine Lib.hid ?_
      have HKB7 := Lib.hid (HKB6.out.call hb)
      have HO10 := Lib.hid (HO9.out.below hb)
      clear hb HKB6 HO9 HSS
      generalize w8.heap.size = g11 at *
      generalize w2.heap.size = g25 at *
      obtain ⟨p, hp⟩ : ∃ p, P.length = p := ⟨_, rfl⟩
      rw [hp] at HPL HQL ⊢
      have HPE := Lib.hid hp
      clear hp
      have eXE := fun W => equal_keyS XE HLE.out W
      go_wp2_with fail
      have HE0 : Hid (Below w10.heap.size w10 w10.drew) := Lib.hid (Below.refl _ _).drew
      refine wp_region_held_drew (S := KB w [(g1, K)]) (by kernel_rfl) (HKB7.out.call HE0.out) (fun hHeld => ?_)
      refine wpAnyH_take (i := 0) (v := .agg (bvA K)) rfl (by kernel_rfl) (by kernel_rfl) (by kernel_rfl) (fun _ _ _ h => h) (yieldsIf_load_mid (by rfl) 24 (.tmp 3) rfl g1 0 rfl (K.map bv) _ (fun _ h => (h.key g1 K (by simp)).range) Tryd.underlying24 rfl (key_szl _ HLK.out)) hHeld ?_
      simp only [Act.put, List.getElem_toArray, List.getElem_cons_zero, List.getElem_cons_succ, List.setIfInBounds_toArray, List.set_cons_zero, List.set_cons_succ]
      refine wpAnyH_take (i := 1) (v := .string s) rfl (by kernel_rfl) (by kernel_rfl) (by kernel_rfl) (fun _ _ _ h => h) (Or.inl ⟨by rfl, fun w _ => by go_simp⟩) hHeld ?_
      simp only [Act.put, List.getElem_toArray, List.getElem_cons_zero, List.getElem_cons_succ, List.setIfInBounds_toArray, List.set_cons_zero, List.set_cons_succ]
      refine wpAnyH_take (i := 2) (v := .slice a k cap) rfl (by kernel_rfl) (by kernel_rfl) (by kernel_rfl) (fun _ _ _ h => h) (Or.inl ⟨by rfl, fun w _ => by go_simp⟩) hHeld ?_
      simp only [Act.put, List.getElem_toArray, List.getElem_cons_zero, List.getElem_cons_succ, List.setIfInBounds_toArray, List.set_cons_zero, List.set_cons_succ]
      refine wpAnyH_take (i := 5) (v := .slice (some ⟨g1, 0, none⟩) 32 32) rfl (by kernel_rfl) (by kernel_rfl) (by kernel_rfl) (fun _ _ _ h => h) (Or.inl ⟨by rfl, fun w _ => by go_simp⟩) hHeld ?_
      simp only [Act.put, List.getElem_toArray, List.getElem_cons_zero, List.getElem_cons_succ, List.setIfInBounds_toArray, List.set_cons_zero, List.set_cons_succ]
      refine wpAnyH_take (i := 7) (v := .slice a7 p cap7) rfl (by kernel_rfl) (by kernel_rfl) (by kernel_rfl) (fun _ _ _ h => h) (Or.inl ⟨by rfl, fun w _ => by go_simp⟩) hHeld ?_
      simp only [Act.put, List.getElem_toArray, List.getElem_cons_zero, List.getElem_cons_succ, List.setIfInBounds_toArray, List.set_cons_zero, List.set_cons_succ]
      refine wpAnyH_ready (rs := [3, 4]) (by kernel_rfl) (by simp) (AllReadyH.cons rfl (fun K0 hK => ?_) (AllReadyH.cons rfl (fun K0 hK => ?_) AllReadyH.nil))
      · skip
        rw [if_pos (by rfl)]
        go_simp
        refine (HEX.out _ (HT.out.below (HKB7.out.call HE0.out).below HT.out.lt) ((HR.out.below (HKB7.out.call HE0.out).below).mono (HKB7.out.call HE0.out).below.size)).mono ?_
        rintro e u3 ⟨rfl, hb⟩
        have HE3 := Lib.hid (HE0.out.trans (hb.mono HE0.out.size))
        try go_wp2_with fail
        refine hK.out _ _ (HKB7.out.call HE3.out) (fun hHeld => ?_)
        clear hK K0
        try simp only [Act.put, List.getElem_toArray, List.getElem_cons_zero, List.getElem_cons_succ, List.setIfInBounds_toArray, List.set_cons_zero, List.set_cons_succ]
        refine wpAnyH_ready (rs := [4]) (by kernel_rfl) (by simp) (AllReadyH.cons rfl (fun K0 hK => ?_) AllReadyH.nil)
        rw [if_pos (by rfl)]
        refine wp_nil0 rfl ?_
        intro u4 g2 ho hg2 hb
        have HOE : Hid (OwnB w10.heap.size u4 (.slice (some ⟨g2, 0, none⟩) 0 0) []) := Lib.hid (ho.mono HE3.out.size)
        have HE4 := Lib.hid (HE3.out.trans (hb.mono HE3.out.size))
        clear ho hg2 hb
        refine hK.out _ _ (HKB7.out.call HE4.out) (fun hHeld => ?_)
        clear hK K0
        try simp only [Act.put, List.getElem_toArray, List.getElem_cons_zero, List.getElem_cons_succ, List.setIfInBounds_toArray, List.set_cons_zero, List.set_cons_succ]
        refine wpAnyH_ready (rs := [6]) (by kernel_rfl) (by simp) (AllReadyH.cons rfl (fun K0 hK => ?_) AllReadyH.nil)
        rw [if_pos (by rfl)]
        refine wp_appB (.tmp 73) (.tmp 74) rfl w10.heap.size _ [] K (some ⟨g1, 0, none⟩) 32 rfl HOE.out (by rw [HLK.out]; rfl) (((HKB7.out.call HE4.out).key g1 K (by simp)).rdBm HLK.out) (fun h => by cases h) (by rw [HLK.out]; decide) HE4.out.size ?_
        intro v5 u5 ho hg
        have HO5 : Hid (OwnB w10.heap.size u5 v5 K) := Lib.hid ho
        have HE5 := Lib.hid (HE4.out.trans (hg.below (fun r hr => HOE.out.base r hr) HE4.out.size))
        clear ho hg
        refine hK.out _ _ (HKB7.out.call HE5.out) (fun hHeld => ?_)
        clear hK K0
        try simp only [Act.put, List.getElem_toArray, List.getElem_cons_zero, List.getElem_cons_succ, List.setIfInBounds_toArray, List.set_cons_zero, List.set_cons_succ]
        refine wpAnyH_ready (rs := [8]) (by kernel_rfl) (by simp) (AllReadyH.cons rfl (fun K0 hK => ?_) AllReadyH.nil)
        rw [if_pos (by rfl)]
        refine wp_appB (.tmp 75) (.tmp 76) rfl w10.heap.size _ K P a7 cap7 rfl HO5.out (by rw [HPE.out]; rfl) ((HO10.out.below HE5.out).rd) (nil_cap HO10.out) (by rw [HLK.out, HPE.out]; have := HPL.out; omega) HE5.out.size ?_
        intro v6 u6 ho hg
        rw [HQQ.out] at ho
        obtain ⟨a6, c6, rfl, -, -⟩ := ho.form
        have HO6 : Hid (OwnB w10.heap.size u6 (.slice a6 Q.length c6) Q) := Lib.hid ho
        have HE6 := Lib.hid (HE5.out.trans (hg.below (fun r hr => HO5.out.base r hr) HE5.out.size))
        clear ho hg
        refine hK.out _ _ (HKB7.out.call HE6.out) (fun hHeld => ?_)
        clear hK K0
        try simp only [Act.put, List.getElem_toArray, List.getElem_cons_zero, List.getElem_cons_succ, List.setIfInBounds_toArray, List.set_cons_zero, List.set_cons_succ]
        have hc := Tagged_any ⟨#[100, 101, 114, 105, 118, 101]⟩ a6 c6 Q u6 (HT.out.below (HKB7.out.call HE6.out).below HT.out.lt) HO6.out.rd HO6.out.caps.1 HO6.out.caps.2 (by decide) (by rw [HQL.out]; have := HPL.out; omega)
        rw [show tagS (ByteArray.mk #[100, 101, 114, 105, 118, 101]).data.toList Q = XE from HXE.out.symm] at hc
        have HC := Lib.hid hc
        clear hc
        refine wpAnyH_ready (rs := [9]) (by kernel_rfl) (by simp) (AllReadyH.cons rfl (fun K0 hK => ?_) AllReadyH.nil)
        rw [if_pos (by rfl)]
        go_simp
        refine HC.out.mono ?_
        rintro e u7 ⟨rfl, hb⟩
        have HE7 := Lib.hid (HE6.out.trans (hb.mono HE6.out.size))
        try go_wp2_with fail
        refine hK.out _ _ (HKB7.out.call HE7.out) (fun hHeld => ?_)
        clear hK K0
        try simp only [Act.put, List.getElem_toArray, List.getElem_cons_zero, List.getElem_cons_succ, List.setIfInBounds_toArray, List.set_cons_zero, List.set_cons_succ]
        refine wpAnyH_take (i := 10) (v := .bool true) rfl (by kernel_rfl) (by kernel_rfl) (by kernel_rfl) (fun _ _ _ h => h) (Or.inl ⟨by rfl, fun w _ => run_eqK (.tmp 72) (.tmp 78) (bvA XE) (bvA XE) true rfl rfl rfl (eXE w)⟩) hHeld ?_
        simp only [Act.put, List.getElem_toArray, List.getElem_cons_zero, List.getElem_cons_succ, List.setIfInBounds_toArray, List.set_cons_zero, List.set_cons_succ]
        refine wpAnyH_take (i := 11) (v := .bool true) rfl (by kernel_rfl) (by kernel_rfl) (by kernel_rfl) (fun _ _ _ h => h) (Or.inl ⟨by rfl, fun w _ => by go_simp⟩) hHeld ?_
        simp only [Act.put, List.getElem_toArray, List.getElem_cons_zero, List.getElem_cons_succ, List.setIfInBounds_toArray, List.set_cons_zero, List.set_cons_succ]
        refine wpAnyH_done (by kernel_rfl) ?_ _
        have HKBF := Lib.hid (HKB7.out.call HE7.out)
        clear hHeld
        go_wp2_with fail
        go_ret
        exact ⟨rfl, HG1.out ▸ HKBF.out.below⟩
      · skip
        rw [if_pos (by rfl)]
        refine wp_nil0 rfl ?_
        intro u3 g2 ho hg2 hb
        have HOE : Hid (OwnB w10.heap.size u3 (.slice (some ⟨g2, 0, none⟩) 0 0) []) := Lib.hid (ho.mono HE0.out.size)
        have HE3 := Lib.hid (HE0.out.trans (hb.mono HE0.out.size))
        clear ho hg2 hb
        refine hK.out _ _ (HKB7.out.call HE3.out) (fun hHeld => ?_)
        clear hK K0
        try simp only [Act.put, List.getElem_toArray, List.getElem_cons_zero, List.getElem_cons_succ, List.setIfInBounds_toArray, List.set_cons_zero, List.set_cons_succ]
        refine wpAnyH_ready (rs := [3]) (by kernel_rfl) (by simp) (AllReadyH.cons rfl (fun K0 hK => ?_) AllReadyH.nil)
        rw [if_pos (by rfl)]
        go_simp
        refine (HEX.out _ (HT.out.below (HKB7.out.call HE3.out).below HT.out.lt) ((HR.out.below (HKB7.out.call HE3.out).below).mono (HKB7.out.call HE3.out).below.size)).mono ?_
        rintro e u4 ⟨rfl, hb⟩
        have HE4 := Lib.hid (HE3.out.trans (hb.mono HE3.out.size))
        replace HOE := Lib.hid (HOE.out.below hb)
        try go_wp2_with fail
        refine hK.out _ _ (HKB7.out.call HE4.out) (fun hHeld => ?_)
        clear hK K0
        try simp only [Act.put, List.getElem_toArray, List.getElem_cons_zero, List.getElem_cons_succ, List.setIfInBounds_toArray, List.set_cons_zero, List.set_cons_succ]
        refine wpAnyH_ready (rs := [6]) (by kernel_rfl) (by simp) (AllReadyH.cons rfl (fun K0 hK => ?_) AllReadyH.nil)
        rw [if_pos (by rfl)]
        refine wp_appB (.tmp 73) (.tmp 74) rfl w10.heap.size _ [] K (some ⟨g1, 0, none⟩) 32 rfl HOE.out (by rw [HLK.out]; rfl) (((HKB7.out.call HE4.out).key g1 K (by simp)).rdBm HLK.out) (fun h => by cases h) (by rw [HLK.out]; decide) HE4.out.size ?_
        intro v5 u5 ho hg
        have HO5 : Hid (OwnB w10.heap.size u5 v5 K) := Lib.hid ho
        have HE5 := Lib.hid (HE4.out.trans (hg.below (fun r hr => HOE.out.base r hr) HE4.out.size))
        clear ho hg
        refine hK.out _ _ (HKB7.out.call HE5.out) (fun hHeld => ?_)
        clear hK K0
        try simp only [Act.put, List.getElem_toArray, List.getElem_cons_zero, List.getElem_cons_succ, List.setIfInBounds_toArray, List.set_cons_zero, List.set_cons_succ]
        refine wpAnyH_ready (rs := [8]) (by kernel_rfl) (by simp) (AllReadyH.cons rfl (fun K0 hK => ?_) AllReadyH.nil)
        rw [if_pos (by rfl)]
        refine wp_appB (.tmp 75) (.tmp 76) rfl w10.heap.size _ K P a7 cap7 rfl HO5.out (by rw [HPE.out]; rfl) ((HO10.out.below HE5.out).rd) (nil_cap HO10.out) (by rw [HLK.out, HPE.out]; have := HPL.out; omega) HE5.out.size ?_
        intro v6 u6 ho hg
        rw [HQQ.out] at ho
        obtain ⟨a6, c6, rfl, -, -⟩ := ho.form
        have HO6 : Hid (OwnB w10.heap.size u6 (.slice a6 Q.length c6) Q) := Lib.hid ho
        have HE6 := Lib.hid (HE5.out.trans (hg.below (fun r hr => HO5.out.base r hr) HE5.out.size))
        clear ho hg
        refine hK.out _ _ (HKB7.out.call HE6.out) (fun hHeld => ?_)
        clear hK K0
        try simp only [Act.put, List.getElem_toArray, List.getElem_cons_zero, List.getElem_cons_succ, List.setIfInBounds_toArray, List.set_cons_zero, List.set_cons_succ]
        have hc := Tagged_any ⟨#[100, 101, 114, 105, 118, 101]⟩ a6 c6 Q u6 (HT.out.below (HKB7.out.call HE6.out).below HT.out.lt) HO6.out.rd HO6.out.caps.1 HO6.out.caps.2 (by decide) (by rw [HQL.out]; have := HPL.out; omega)
        rw [show tagS (ByteArray.mk #[100, 101, 114, 105, 118, 101]).data.toList Q = XE from HXE.out.symm] at hc
        have HC := Lib.hid hc
        clear hc
        refine wpAnyH_ready (rs := [9]) (by kernel_rfl) (by simp) (AllReadyH.cons rfl (fun K0 hK => ?_) AllReadyH.nil)
        rw [if_pos (by rfl)]
        go_simp
        refine HC.out.mono ?_
        rintro e u7 ⟨rfl, hb⟩
        have HE7 := Lib.hid (HE6.out.trans (hb.mono HE6.out.size))
        try go_wp2_with fail
        refine hK.out _ _ (HKB7.out.call HE7.out) (fun hHeld => ?_)
        clear hK K0
        try simp only [Act.put, List.getElem_toArray, List.getElem_cons_zero, List.getElem_cons_succ, List.setIfInBounds_toArray, List.set_cons_zero, List.set_cons_succ]
        refine wpAnyH_take (i := 10) (v := .bool true) rfl (by kernel_rfl) (by kernel_rfl) (by kernel_rfl) (fun _ _ _ h => h) (Or.inl ⟨by rfl, fun w _ => run_eqK (.tmp 72) (.tmp 78) (bvA XE) (bvA XE) true rfl rfl rfl (eXE w)⟩) hHeld ?_
        simp only [Act.put, List.getElem_toArray, List.getElem_cons_zero, List.getElem_cons_succ, List.setIfInBounds_toArray, List.set_cons_zero, List.set_cons_succ]
        refine wpAnyH_take (i := 11) (v := .bool true) rfl (by kernel_rfl) (by kernel_rfl) (by kernel_rfl) (fun _ _ _ h => h) (Or.inl ⟨by rfl, fun w _ => by go_simp⟩) hHeld ?_
        simp only [Act.put, List.getElem_toArray, List.getElem_cons_zero, List.getElem_cons_succ, List.setIfInBounds_toArray, List.set_cons_zero, List.set_cons_succ]
        refine wpAnyH_done (by kernel_rfl) ?_ _
        have HKBF := Lib.hid (HKB7.out.call HE7.out)
        clear hHeld
        go_wp2_with fail
        go_ret
        exact ⟨rfl, HG1.out ▸ HKBF.out.below⟩
end Go.Proofs.YthcbnanohjkllaaDoor
