/-
  The walk of DerivePrivate (chartroomlaw07).
-/
import Derived.Test.YthcbnanohjkllaaDoorDm
import Derived.Test.YthcbnanohjkllaaDoorPkG
import Derived.Test.YthcbnanohjkllaaDoorSs
namespace Go.Proofs.YthcbnanohjkllaaDoor
open Go.RowKit
set_option linter.unusedVariables false
set_option linter.unusedSimpArgs false

set_option maxRecDepth 100000 in
set_option maxHeartbeats 2000000 in
theorem private_walk7 (K : List UInt8) (hK : K.length = 32) (s : ByteArray) (w : World) (hs : s.size ≤ maxLen) (hT : Tab w) :
    Calls Tryd.prog 9 #[.agg (bvA K), .string s] w fun e w' => e = .returned (.bool true) ∧ Below w.heap.size w w' := by
  have HT := Lib.hid hT
  have HLK := Lib.hid hK
  have HKB1 := Lib.hid ((KB.start w).box K hK)
  clear hT hK
  go_enter Tryd.func9, Tryd.ntmps9
  go_wp2_with (go_at_call 10; refine (dsane_any _ (HT.out.below HKB1.out.below HT.out.lt)).mono ?_; rintro e w2 ⟨rfl, hb⟩; refine Hid.out ?_)
  refine Lib.hid ?_
  have HKB2 := Lib.hid (HKB1.out.call hb)
  clear hb HKB1
  generalize w.heap.size = g1 at HKB2 ⊢
  by_cases hl : 500 < s.size
  · have f1 : decide ((500 : Int) < (s.size : Int)) = true := decide_eq_true (by omega)
    go_wp2_with fail
    go_ret
    exact ⟨rfl, HKB2.out.below⟩
  have f1 : decide ((500 : Int) < (s.size : Int)) = false := decide_eq_false (by omega)
  have H1 := Lib.hid (fun W h => Expand_any K HLK.out s none 0 [] W h (by omega) (RdM.nil _ _ _) (by decide) (fun _ h => by cases h))
  have H2 := Lib.hid (fun W h => DScalar_any K HLK.out s W h (by omega))
  have HLE := Lib.hid (expS_len K s [])
  have hsb := scS_bd K s
  have HX : Hid (scalS (tagS tagScalar (expS K s [])) = scS K s) := Lib.hid rfl
  generalize scS K s = x at *
  generalize expS K s [] = E at *
  have hb1 : 4 ^ x % 4611686018427377339 ≠ 1 := pow4_ne (by omega) (by unfold oQ; omega)
  have hel := pow4_is x
  have hb4 : expR 4 (x : Int) = (((4 ^ x % 4611686018427377339 : Nat) : Int), 0) := expR_ok (a := 4) (isEl_of (by decide) El4) (by omega)
  have H3 : Hid (∀ W, Calls Tryd.prog 26 #[.int .i64 (x : Int)] W fun e w' => e = .returned (.tuple #[.int .i64 ((4 ^ x % 4611686018427377339 : Nat) : Int), .int .i64 0]) ∧ Below W.heap.size W w') := Lib.hid (fun W => by
    have h := gBase_any x W
    rw [hb4] at h
    exact h)
  have H4 := Lib.hid (fun W => gCheck_ok _ hel W)
  clear hel hb4
  generalize 4 ^ x % 4611686018427377339 = y at *
  have hy1 : ((y : Int) != 1) = true := by rw [bne_iff_ne]; omega
  have hy2 : ((y : Int) == 1) = false := by rw [beq_eq_false_iff_ne]; omega
  have HB1 := Lib.hid hb1
  have HSB := Lib.hid hsb
  clear hb1 hsb
  go_wp2_with (first
      | (refine wpList_load_row rfl 24 (.tmp 2) rfl g1 rfl _ (bvA K) (0, 0) _ (HKB2.out.key g1 K (by simp)) Tryd.underlying24 rfl (key_sz _ HLK.out) ?_)
      | (go_at_call 13; refine (H1.out _ (HT.out.below HKB2.out.below HT.out.lt)).mono ?_; rintro e v3 ⟨rfl, hb⟩; refine Hid.out ?_))
  refine Lib.hid ?_
  have HKB3 := Lib.hid (HKB2.out.call hb)
  clear hb HKB2
  go_wp2_with (refine wpList_storeA rfl 24 (.tmp 5) (.tmp 16) rfl v3.heap.size (bvA E) rfl rfl 24 _ (BB.new v3 _ (List.replicate 32 0)) (key_sz _ HLE.out) (key_old _ HLE.out) (bvA_one _) ?_)
  intro w4 hst hgr
  have HKB4 := Lib.hid (HKB3.out.add E HLE.out hst hgr)
  clear hst hgr HKB3
  generalize v3.heap.size = g2 at *
  clear v3
  go_wp2_with (first
      | (refine wpList_load_row rfl 24 (.tmp 2) rfl g1 rfl _ (bvA K) (0, 0) _ (HKB4.out.key g1 K (by simp)) Tryd.underlying24 rfl (key_sz _ HLK.out) ?_)
      | (go_at_call 19; refine (H2.out _ (HT.out.below HKB4.out.below HT.out.lt)).mono ?_; rintro e w5 ⟨rfl, hb⟩; refine Hid.out ?_))
  refine Lib.hid ?_
  have HKB5 := Lib.hid (HKB4.out.call hb)
  clear hb HKB4
  go_wp2_with (go_at_call 26; refine (H3.out _).mono ?_; rintro e w6 ⟨rfl, hb⟩; refine Hid.out ?_)
  refine Lib.hid ?_
  have HKB6 := Lib.hid (HKB5.out.call hb)
  clear hb HKB5
  have hc := gScalar ⟨#[115, 99, 97, 108, 97, 114]⟩ (some ⟨g2, 0, none⟩) 32 E w6 (HT.out.below HKB6.out.below HT.out.lt) ((HKB6.out.key g2 E (by simp)).rdBm HLE.out) (by rw [HLE.out]; omega) (by unfold maxLen; omega) (by decide) (by rw [HLE.out]; omega)
  rw [HLE.out, show scalS (tagS (ByteArray.mk #[115, 99, 97, 108, 97, 114]).data.toList E) = x from HX.out] at hc
  have HC := Lib.hid hc
  clear hc
  go_wp2_with (go_at_call 27; refine HC.out.mono ?_; rintro e w7 ⟨rfl, hb⟩; refine Hid.out ?_)
  refine Lib.hid ?_
  have HKB7 := Lib.hid (HKB6.out.call hb)
  clear hb HKB6
  go_wp2_with (go_at_call 28; refine (H4.out _).mono ?_; rintro e w8 ⟨rfl, hb⟩; refine Hid.out ?_)
  refine Lib.hid ?_
  have HKB8 := Lib.hid (HKB7.out.call hb)
  clear hb HKB7
  go_wp2_with fail
  go_ret
  exact ⟨rfl, HKB8.out.below⟩
end Go.Proofs.YthcbnanohjkllaaDoor
