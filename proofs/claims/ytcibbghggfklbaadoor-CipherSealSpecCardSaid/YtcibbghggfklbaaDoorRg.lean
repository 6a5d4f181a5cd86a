/-
  The reference of cipher: Tag.
-/
import Derived.Test.YtcibbghggfklbaaDoorRs
import Derived.Test.YtcibbghggfklbaaDoorPkR
namespace Go.Proofs.YtcibbghggfklbaaDoor
open Go.RowKit
set_option linter.unusedVariables false
set_option linter.unusedSimpArgs false

set_option maxRecDepth 100000 in
set_option maxHeartbeats 4000000 in
theorem refTagAny (k n hd x : List UInt8) (hk : k.length = 32) (hn : n.length = 12) (a : Option Addr) (q cap : Nat) (ax : Option Addr) (z cx : Nat) (w : World) (hh : RdV w (.slice a q cap) hd) (hx : RdV w (.slice ax z cx) x) (hl : hd.length ≤ 70368744100000) (hlx : x.length ≤ 66000) :
    Calls Tryd.prog 26 #[.agg (bvA k), .agg (bvA n), .slice a q cap, .slice ax z cx] w fun e w' => ∃ v', e = .returned v' ∧ OwnB w.heap.size w' v' (tagC k n hd x) ∧ Below w.heap.size w w' := by
  have hq := hh.len
  have hz := hx.len
  have HX := Lib.hid hx
  have HH := Lib.hid hh
  have HLK := Lib.hid hk
  have HLN := Lib.hid hn
  have HKN := Lib.hid (KN.start w k n)
  have HLL : Hid (hd.length ≤ 70368744100000 ∧ x.length ≤ 66000) := Lib.hid ⟨hl, hlx⟩
  have HTC : Hid (tagC k n hd x = (tagS [116, 97, 103] (k ++ n ++ be8 (q : Nat) ++ hd ++ x)).take 16) := Lib.hid (by rw [hq]; rfl)
  have HQL := Lib.hid hq
  have HZL := Lib.hid hz
  have iq : (q : Int) ≤ 70368744100000 := by omega
  clear hk hn hh hx hq hz
  obtain ⟨w1, hw1⟩ : ∃ w1, w1 = (w.alloc (.cells (bvA k) 23)).alloc (.cells (bvA n) 25) := ⟨_, rfl⟩
  rw [← hw1] at HKN
  have HW1 := Lib.hid hw1
  clear hw1
  go_enter Tryd.func26, Tryd.ntmps26
  go_wp2_with fail
  rw [← HW1.out]
  clear HW1
  have HB0 : Hid (Below w1.heap.size w1 w1.drew) := (Below.refl _ _).drew
  have HRK : Hid (∀ W, Below w1.heap.size w1 W → RdV W (.slice (some ⟨w.heap.size, 0, none⟩) 32 32) k) := Lib.hid (fun W hW => (HKN.out.key.rdv 32 HLK.out (by unfold maxLen; omega)).call hW)
  have HRN : Hid (∀ W, Below w1.heap.size w1 W → RdV W (.slice (some ⟨w.heap.size + 1, 0, none⟩) 12 12) n) := Lib.hid (fun W hW => (HKN.out.nonce.rdv 12 HLN.out (by unfold maxLen; omega)).call hW)
  refine wp_region_held_drew (S := fun _ => True) (by kernel_rfl) trivial (fun hHeld => ?_)
  refine wpAnyH_take (i := 1) (v := .slice (some ⟨w.heap.size, 0, none⟩) 32 32) rfl (by kernel_rfl) (by kernel_rfl) (by kernel_rfl) (fun _ _ _ h => h) (Or.inl ⟨by rfl, fun w _ => by go_simp⟩) hHeld ?_
  simp only [Act.put, List.getElem_toArray, List.getElem_cons_zero, List.getElem_cons_succ, List.setIfInBounds_toArray, List.set_cons_zero, List.set_cons_succ]
  refine wpAnyH_take (i := 3) (v := .slice (some ⟨w.heap.size + 1, 0, none⟩) 12 12) rfl (by kernel_rfl) (by kernel_rfl) (by kernel_rfl) (fun _ _ _ h => h) (Or.inl ⟨by rfl, fun w _ => by go_simp⟩) hHeld ?_
  simp only [Act.put, List.getElem_toArray, List.getElem_cons_zero, List.getElem_cons_succ, List.setIfInBounds_toArray, List.set_cons_zero, List.set_cons_succ]
  refine wpAnyH_ready (rs := [0]) (by kernel_rfl) (by simp) (AllReadyH.cons rfl (fun K hK => ?_) AllReadyH.nil)
  rw [if_pos (by rfl)]
  refine wp_nilB0 rfl ?_
  intro w2 g2 ho hg2 hz hb
  have HO2 : Hid (OwnB w1.heap.size w2 (.slice (some ⟨g2, 0, none⟩) 0 0) []) := Lib.hid (ho.mono HB0.out.size)
  have HE2 := Lib.hid (HB0.out.trans (hb.mono HB0.out.size))
  clear ho hg2 hz hb
  refine hK.out _ _ trivial (fun hHeld => ?_)
  clear hK K
  try simp only [Act.put, List.getElem_toArray, List.getElem_cons_zero, List.getElem_cons_succ, List.setIfInBounds_toArray, List.set_cons_zero, List.set_cons_succ]
  refine wpAnyH_ready (rs := [2]) (by kernel_rfl) (by simp) (AllReadyH.cons rfl (fun K hK => ?_) AllReadyH.nil)
  rw [if_pos (by rfl)]
  obtain ⟨a', c', he, g1, g2', g3, g4⟩ := (HRK.out _ HE2.out).form
  injection he with e1 e2 e3
  subst e1; subst e3; clear e2
  refine wp_appB (.tmp 12) (.tmp 13) rfl w1.heap.size _ ([]) (k) _ _ rfl HO2.out (by rw [HLK.out]; rfl) g1 g4 (by simp only [List.length_nil, List.nil_append, HLK.out, HLN.out]; decide) HE2.out.size ?_
  intro v3 w3 ho hg
  have HO3 : Hid (OwnB w1.heap.size w3 v3 ([] ++ k)) := Lib.hid ho
  have HE3 := Lib.hid (HE2.out.trans (hg.below (fun r hr => HO2.out.base r hr) HE2.out.size))
  clear ho hg
  refine hK.out _ _ trivial (fun hHeld => ?_)
  clear hK K
  try simp only [Act.put, List.getElem_toArray, List.getElem_cons_zero, List.getElem_cons_succ, List.setIfInBounds_toArray, List.set_cons_zero, List.set_cons_succ]
  refine wpAnyH_ready (rs := [4]) (by kernel_rfl) (by simp) (AllReadyH.cons rfl (fun K hK => ?_) AllReadyH.nil)
  rw [if_pos (by rfl)]
  obtain ⟨a', c', he, g1, g2', g3, g4⟩ := (HRN.out _ HE3.out).form
  injection he with e1 e2 e3
  subst e1; subst e3; clear e2
  refine wp_appB (.tmp 14) (.tmp 15) rfl w1.heap.size _ ([] ++ k) (n) _ _ rfl HO3.out (by rw [HLN.out]; rfl) g1 g4 (by simp only [List.length_nil, List.nil_append, HLK.out, HLN.out]; decide) HE3.out.size ?_
  intro v4 w4 ho hg
  have HO4 : Hid (OwnB w1.heap.size w4 v4 ([] ++ k ++ n)) := Lib.hid ho
  have HE4 := Lib.hid (HE3.out.trans (hg.below (fun r hr => HO3.out.base r hr) HE3.out.size))
  clear ho hg
  refine hK.out _ _ trivial (fun hHeld => ?_)
  clear hK K
  try simp only [Act.put, List.getElem_toArray, List.getElem_cons_zero, List.getElem_cons_succ, List.setIfInBounds_toArray, List.set_cons_zero, List.set_cons_succ]
  rw [List.nil_append] at HO4
  obtain ⟨a4, c4, hv4, -, -⟩ := HO4.out.form
  rw [hv4] at HO4
  subst hv4
  refine wpAnyH_take (i := 5) (v := .slice a4 (k ++ n).length c4) rfl (by kernel_rfl) (by kernel_rfl) (by kernel_rfl) (fun _ _ _ h => h) (Or.inl ⟨by rfl, fun w _ => by go_simp⟩) hHeld ?_
  simp only [Act.put, List.getElem_toArray, List.getElem_cons_zero, List.getElem_cons_succ, List.setIfInBounds_toArray, List.set_cons_zero, List.set_cons_succ]
  refine wpAnyH_done (by kernel_rfl) ?_ _
  have HO5 : Hid (OwnB w1.heap.size w4 (.slice a4 (k ++ n).length c4) (k ++ n ++ (be8 (q : Nat)).take 0)) := Lib.hid (by rw [List.take_zero, List.append_nil]; exact HO4.out)
  have HPL : Hid ((k ++ n).length = 44) := Lib.hid (by rw [List.length_append, HLK.out, HLN.out])
  clear HO4 HO3 HO2 HE2 HE3 HB0 hHeld
  generalize (k ++ n).length = pl at *
  go_wp2_with fail
  go_loopw [10, 9] (fun i v wr => ∃ m : Nat, m ≤ 8 ∧ i = .int .i64 (7 - (m : Int)) ∧ OwnB w1.heap.size wr v (k ++ n ++ (be8 (q : Nat)).take m) ∧ Below w1.heap.size w1 wr) (fun i _ _ => (intOf i + 1).toNat)
  case atStart => exact ⟨0, by omega, rfl, HO5.out, HE4.out⟩
  case round =>
    clear HO5 HE4
    obtain ⟨m, hm, rfl, ho, hb⟩ := hrel
    have HO := Lib.hid ho
    have HB := Lib.hid hb
    obtain ⟨av, cv, hv, -, -⟩ := ho.form
    subst hv
    clear ho hb
    by_cases hlt : m < 8
    · have HXM := Lib.hid (be8_take (q : Nat) m hlt)
      have HV := Lib.hid (cbv_byN (q : Nat) m)
      have HU := Lib.hid (byN_u (q : Nat) m hlt)
      have HL : Hid ((k ++ n ++ (be8 (q : Nat)).take m).length + 1 ≤ 140737488355328) := Lib.hid (by rw [List.length_append, List.length_append, HLK.out, HLN.out, List.length_take, be8_len]; omega)
      have hi0 : (0 : Int) ≤ 7 - (m : Int) := by omega
      obtain ⟨tk, htk⟩ : ∃ tk, tk = k ++ n ++ (be8 (q : Nat)).take m := ⟨_, rfl⟩
      have HTK : Hid (k ++ n ++ (be8 (q : Nat)).take (m + 1) = tk ++ [byN (q : Nat) m]) := Lib.hid (by rw [HXM.out, htk, ← List.append_assoc])
      rw [← htk] at HL HO ⊢
      clear htk
      go_wp2_with ((with_reducible show wpList _ _ _ (({ dst := some 30, op := _, type := _, pos := _, after := _, guard := _ } : Oper) :: _) _ _); go_must (refine wpList_app1 rfl (.tmp 21) (.tmp 29) rfl w1.heap.size _ tk (byN (q : Nat) m) wr.heap.size rfl (HO.out.alloc _) rfl ?hc HL.out ?hs ?_))
      case hc => rw [cell_of_row _ _ _ _ _ _ (heap_alloc_new wr _), show 8 * (7 - m) = 56 - 8 * m by omega, HV.out]; rfl
      case hs => have := HB.out.size; simp; omega
      intro v3 w3 ho3 hg3
      have HB3 := Lib.hid ((HB.out.alloc HB.out.size _).trans (hg3.below (fun k hk => HO.out.base k hk) (HB.out.alloc HB.out.size _).size))
      rw [← HTK.out] at ho3
      have HO3 := Lib.hid ho3
      obtain ⟨a3, c3, hv3, -, -⟩ := ho3.form
      subst hv3
      clear ho3 hg3
      go_wp2_with fail
      go_roundw
      case rel => exact ⟨m + 1, by omega, by go_num, HO3.out, HB3.out⟩
      case measure => simp [intOf]; omega
    · obtain rfl : m = 8 := by omega
      rw [show (be8 (q : Nat)).take 8 = be8 (q : Nat) from by rw [List.take_of_length_le (by rw [be8_len]; omega)]] at HO ⊢
      have HRH := Lib.hid (HH.out.call (HKN.out.below.trans (HB.out.mono HKN.out.below.size)))
      have HBX : Hid (∀ W, Below w1.heap.size w1 W → RdV W (.slice ax z cx) x) := Lib.hid (fun W hW => HX.out.call (HKN.out.below.trans (hW.mono HKN.out.below.size)))
      have HPL2 : Hid ((k ++ n ++ be8 (q : Nat)).length = 52) := Lib.hid (by rw [List.length_append, List.length_append, HLK.out, HLN.out, be8_len])
      obtain ⟨P, hP⟩ : ∃ P, k ++ n ++ be8 (q : Nat) = P := ⟨_, rfl⟩
      rw [hP] at HO HPL2 HTC ⊢
      have HML : Hid ((P ++ hd ++ x).length ≤ 70368744177000) := Lib.hid (by rw [List.length_append, List.length_append, HPL2.out]; have := HLL.out; omega)
      obtain ⟨M, hM⟩ : ∃ M, P ++ hd ++ x = M := ⟨_, rfl⟩
      rw [hM] at HTC HML
      have HMM := Lib.hid hM
      clear hM
      obtain ⟨D, hD⟩ : ∃ D, tagS [116, 97, 103] M = D := ⟨_, rfl⟩
      have HDL : Hid (D.length = 32) := Lib.hid (by rw [← hD, tagS_len])
      have HTG : Hid (∀ W a c, RdV W (.slice a M.length c) M → Calls Tryd.prog 35 #[.string ⟨#[116, 97, 103]⟩, .slice a M.length c] W fun e w' => e = .returned (.agg (bvA D)) ∧ Below W.heap.size W w') := by
        show ∀ W a c, _ → _
        intro W a c hv
        obtain ⟨a1, c1, he, r1, r2, r3, r4⟩ := hv
        injection he with e1 e2 e3
        subst e1; subst e3
        rw [← hD]
        exact refTagged ⟨#[116, 97, 103]⟩ a c M W r1 r2 r3 r4 (by decide) HML.out
      rw [hD] at HTC
      have HSD : Hid ((Tryd.prog.info? 41).map (·.size) = some (bvA D).size) := Lib.hid (by rw [bvA_size, HDL.out]; kernel_rfl)
      have HOD : Hid ((bvA (List.replicate 32 0)).size = (bvA D).size) := Lib.hid (by rw [bvA_size, bvA_size, HDL.out, List.length_replicate])
      have HL1 : Hid (P.length + hd.length ≤ 140737488355328) := Lib.hid (by rw [HPL2.out]; have := HLL.out; omega)
      have HL2 : Hid ((P ++ hd).length + x.length ≤ 140737488355328) := Lib.hid (by rw [List.length_append, HPL2.out]; have := HLL.out; omega)
      clear hP hD
      go_wp2_with (first
        | (obtain ⟨ra, rc, he, r1, r2, r3, r4⟩ := HRH.out.form; injection he with e1 e2 e3; subst e1; subst e3; refine wpList_appB rfl (.tmp 31) (.tmp 32) rfl w1.heap.size _ P hd a cap rfl HO.out (by rw [← HQL.out]; rfl) r1 r4 HL1.out HB.out.size ?_; intro v5 w5 ho5 hg5; have HO5 := Lib.hid ho5; have HE5 := Lib.hid (HB.out.trans (hg5.below (fun r hr => HO.out.base r hr) HB.out.size)); clear ho5 hg5 r1 r2 r3 r4 e2)
        | (obtain ⟨ra, rc, he, r1, r2, r3, r4⟩ := (HBX.out _ HE5.out).form; injection he with e1 e2 e3; subst e1; subst e3; refine wpList_appB rfl (.tmp 33) (.tmp 34) rfl w1.heap.size _ (P ++ hd) x ax cx rfl HO5.out (by rw [← HZL.out]; rfl) r1 r4 HL2.out HE5.out.size ?_; intro v6 w6 ho6 hg6; rw [HMM.out] at ho6; have HO6 := Lib.hid ho6; have HE6 := Lib.hid (HE5.out.trans (hg6.below (fun r hr => HO5.out.base r hr) HE5.out.size)); clear ho6 hg6 r1 r2 r3 r4 e2; obtain ⟨a6, c6, hv6, -, -⟩ := HO6.out.form; subst hv6)
        | (go_at_call 35; with_reducible refine (HTG.out w6 a6 c6 HO6.out.rdv).mono ?_; rintro e w7 ⟨rfl, hb7⟩; have HE7 := Lib.hid (HE6.out.trans (hb7.mono HE6.out.size)); clear hb7)
        | (refine wpList_storeA rfl 41 (.tmp 11) (.tmp 36) rfl w7.heap.size (bvA D) rfl rfl 41 (bvA (List.replicate 32 0)) (heap_alloc_new w7 _) HSD.out HOD.out (bvA_one _) ?_))
      intro w8 h8 hg8
      have HD8 : Hid (BB w8 w7.heap.size 41 D) := Lib.hid h8
      have HE8 : Hid (Below w1.heap.size w1 w8) := Lib.hid (grown_below (HE7.out.alloc HE7.out.size _) hg8 HE7.out.size (by rw [alloc_size]; have := HE7.out.size; omega))
      have HO9 : Hid (OwnB w1.heap.size (w8.alloc (.cells #[] 5)) (.slice (some ⟨w8.heap.size, 0, none⟩) 0 0) []) := Lib.hid (OwnB.emptyB HE8.out.size)
      have HE9 : Hid (Below w1.heap.size w1 (w8.alloc (.cells #[] 5))) := Lib.hid (HE8.out.alloc HE8.out.size _)
      have HR9 : Hid (RdB (w8.alloc (.cells #[] 5)).heap.size (w8.alloc (.cells #[] 5)) (some ⟨w7.heap.size, 0, none⟩) (D.take 16)) := Lib.hid ((((HD8.out.alloc _).rdb (by rw [HDL.out]; unfold maxLen; omega))).take 16)
      have HT16 : Hid ((D.take 16).length = 16) := Lib.hid (by rw [List.length_take, HDL.out]; rfl)
      clear h8 hg8
      go_wp2_with (refine wpList_appB rfl (.tmp 37) (.tmp 38) rfl w1.heap.size _ [] (D.take 16) (some ⟨w7.heap.size, 0, none⟩) 32 rfl HO9.out (by rw [HT16.out]; rfl) HR9.out (fun h => by cases h) (by rw [HT16.out]; decide) HE9.out.size ?_; intro v10 w10 ho10 hg10)
      go_ret
      rw [HTC.out]
      exact ⟨_, rfl, ho10.mono HKN.out.below.size, HKN.out.below.trans ((HE9.out.trans (hg10.below (fun r hr => HO9.out.base r hr) HE9.out.size)).mono HKN.out.below.size)⟩
end Go.Proofs.YtcibbghggfklbaaDoor
