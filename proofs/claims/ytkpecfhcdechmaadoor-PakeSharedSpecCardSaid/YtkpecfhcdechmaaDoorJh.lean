/-
  Package pake: proofs of roles; Proof.
-/
import Derived.Test.YtkpecfhcdechmaaDoorJg
import Derived.Test.YtkpecfhcdechmaaDoorKc
namespace Go.Proofs.YtkpecfhcdechmaaDoor
open Go.RowKit
set_option linter.unusedVariables false
set_option linter.unusedSimpArgs false

/-- The byte of a role. -/
def roB (r : Int) : UInt8 := UInt8.ofNat (r % 256).toNat
theorem bv_roB (r : Int) : Value.int .u8 (r % 256) = bv (roB r) := by
  unfold bv roB
  congr 1
  rw [UInt8.toNat_ofNat']
  omega
theorem digP_sz (m : List UInt8) (h : m.length = 32) : (Tryd.prog.info? 31).map (·.size) = some (bvA m).size := by rw [bvA_size, h]; kernel_rfl
theorem digP_szl (k : List UInt8) (hk : k.length = 32) : (Tryd.prog.info? 31).map (·.size) = some (k.map bv).length := by rw [List.length_map, hk]; kernel_rfl
theorem digP_und : Tryd.prog.underlying 31 = some (.array 32 5) := Tryd.underlying31

set_option maxRecDepth 100000 in
set_option maxHeartbeats 1600000 in
theorem proofOf_any (K : List UInt8) (hK : K.length = 32) (r : Int) (w : World) (hT : Tab w) :
    Calls Tryd.prog 43 #[.agg (bvA K), .int .i64 r] w fun e w' => e = .returned (.agg (bvA (prP K (roB r)))) ∧ Below w.heap.size w w' := by
  have HT := Lib.hid hT
  have HV := Lib.hid (bv_roB r)
  obtain ⟨D, hD⟩ : ∃ D, prP K (roB r) = D := ⟨_, rfl⟩
  have HL : Hid (D.length = 32) := Lib.hid (by rw [← hD]; exact prP_len _ _)
  have HD : Hid (tagS (ByteArray.mk #[112, 114, 111, 111, 102]).data.toList (K ++ [roB r]) = D) := Lib.hid hD
  have HLL : Hid ((K ++ [roB r]).length = 33) := Lib.hid (by rw [List.length_append, hK]; rfl)
  rw [hD]
  obtain ⟨c, hc⟩ : ∃ c, roB r = c := ⟨_, rfl⟩
  rw [hc] at HD HV HLL
  have HK := Lib.hid hK
  obtain ⟨w1, hw1⟩ : ∃ w1, w1 = (w.alloc (.cells (bvA K) 32)).alloc (.cells (bvA zK) 31) := ⟨_, rfl⟩
  have HB1 : Hid (Below w.heap.size w w1) := Lib.hid (hw1 ▸ ((Below.refl _ _).alloc (Nat.le_refl _) _).alloc (by simp) _)
  have HK1 : Hid (BB w1 w.heap.size 32 K) := Lib.hid (hw1 ▸ (BB.new w _ _).alloc _)
  have HD1 : Hid (BB w1 (w.heap.size + 1) 31 zK) := Lib.hid (hw1 ▸ (by have h := BB.new (w.alloc (.cells (bvA K) 32)) 31 zK; rw [show (w.alloc (.cells (bvA K) 32)).heap.size = w.heap.size + 1 by simp] at h; exact h))
  have HZ1 : Hid (w1.heap.size = w.heap.size + 1 + 1) := Lib.hid (by rw [hw1]; simp)
  clear hT hK hD hc
  go_enter Tryd.func43, Tryd.ntmps43
  go_wp2_with ((with_reducible show wpList _ _ _ (({ dst := some 9, op := _, type := _, pos := _, after := _, guard := _ } : Oper) :: _) _ _); refine Hid.out ?_)
  refine Lib.hid ?_
  change wpList _ _ _ _ _ (((w.alloc (.cells (bvA K) 32)).alloc (.cells (bvA zK) 31)).alloc (.cells #[.int .u8 (r % 256)] 5))
  rw [← hw1, HV.out]
  clear hw1
  have HO2 : Hid (OwnB w.heap.size (w1.alloc (.cells #[bv c] 5)) (.slice (some ⟨w1.heap.size, 0, none⟩) 1 1) [c]) := Lib.hid (OwnB.built c HB1.out.size)
  rw [HZ1.out] at HO2
  have hA2 : Below w1.heap.size w1 (w1.alloc (.cells #[bv c] 5)) := (Below.refl _ _).alloc (Nat.le_refl _) _
  have HB2 := Lib.hid (HB1.out.trans (hA2.mono HB1.out.size))
  have HK2 := Lib.hid (HK1.out.below hA2 HK1.out.lt)
  have HD2 := Lib.hid (HD1.out.below hA2 HD1.out.lt)
  clear hA2
  generalize w1.alloc (.cells #[bv c] 5) = w2 at *
  refine wpList_appF rfl (.tmp 5) (.tmp 8) rfl ⟨w.heap.size, 0, none⟩ ⟨w.heap.size + 1 + 1, 0, none⟩ 32 1 1 K [c] rfl rfl HK.out rfl (HK2.out.rdBm HK.out) HO2.out.rdOf (by decide) (by decide) ?_
  intro w3 v ho hb
  obtain ⟨a, cap, rfl, -, -⟩ := ho.form
  have HB3 := Lib.hid (HB2.out.trans (hb.mono HB2.out.size))
  have HD3 := Lib.hid (HD2.out.below hb HD2.out.lt)
  have hc := Tagged_any ⟨#[112, 114, 111, 111, 102]⟩ a cap (K ++ [c]) w3 (HT.out.below HB3.out HT.out.lt) ho.rdOf ho.caps.1 ho.caps.2 (by decide) (by rw [HLL.out]; omega)
  rw [HD.out] at hc
  have HC := Lib.hid hc
  clear hc ho hb HB2 HD2 HK2 HO2
  generalize (K ++ [c]).length = q at *
  go_wp2_with (go_at_call 19; refine HC.out.mono ?_; rintro e w4 ⟨rfl, hb⟩; refine Hid.out ?_)
  refine Lib.hid ?_
  have HB4 := Lib.hid (HB3.out.trans (hb.mono HB3.out.size))
  have HD4 := Lib.hid (HD3.out.below hb HD3.out.lt)
  clear hb HB3 HD3 HC
  go_wp2_with (refine wpList_storeA rfl 31 (.tmp 4) (.tmp 10) rfl (w.heap.size + 1) (bvA D) rfl rfl 31 _ HD4.out (digP_sz _ HL.out) (key_old _ HL.out) (bvA_one _) ?_)
  intro w8 h8 hg8
  have hB8 := grown_below HB4.out hg8 (by omega) (by have := HD4.out.lt; omega)
  go_wp2_with fail
  refine bodyPost_ret (v := .agg (bvA D)) ?_ rfl ⟨rfl, hB8⟩
  exact results_cell_row rfl _ _ (w.heap.size + 1) 31 _ (0, 0) _ rfl h8 digP_und rfl (digP_sz _ HL.out)
end Go.Proofs.YtkpecfhcdechmaaDoor
