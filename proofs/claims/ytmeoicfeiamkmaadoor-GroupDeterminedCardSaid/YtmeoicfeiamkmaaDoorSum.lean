/-
  Sum and tagged of package digest.
-/
import Derived.Test.YtmeoicfeiamkmaaDoorFin
namespace Go.Proofs.YtmeoicfeiamkmaaDoor
open Go.RowKit

theorem HM.init {w : World} {R : Nat} (h : w.heap[R]? = some (.cells hash0 55 (0, 0))) : HM w R [] :=
  ⟨List.replicate 64 0, ⟨by simp, rfl, h⟩, rfl⟩
theorem RdB.rdX {B R : Nat} {w w' : World} {a : Option Addr} {l : List UInt8} (h : RdB B w a l) (hb : Below B w w') (hB : B ≤ w'.heap.size) (hR : B ≤ R) : RdX R w' a l := by
  refine ⟨h.1, ?_⟩
  rcases h.2 with h2 | ⟨b, o, ha, hlt, hc⟩
  · exact .inl h2
  · exact .inr ⟨b, o, ha, by omega, by omega, fun j hj => (hb.cell (p := ⟨b, o + j, none⟩) hlt).trans (hc j hj)⟩
theorem sha_size : (Tryd.prog.info? 29).map (·.size) = some 32 := by kernel_rfl

set_option maxRecDepth 100000 in
set_option maxHeartbeats 800000 in
theorem sum_any (a : Option Addr) (cap : Nat) (l : List UInt8) (w : World) (hT : Tab w) (hl : RdB w.heap.size w a l) (hcap : l.length ≤ cap) (hc2 : cap ≤ maxLen) (hn : l.length ≤ 1152921504606846000) :
    Calls Tryd.prog 31 #[.slice a l.length cap] w fun e w' => e = .returned (.agg (bvA (sha l))) ∧ Below w.heap.size w w' := by
  have h0 : 4 ≤ w.heap.size := hT.lt
  have HT := Lib.hid hT
  have HL := Lib.hid hl
  clear hT hl
  obtain ⟨Z0, hZ0⟩ : ∃ Z0, Z0 = ((List.replicate 8 (Value.int .u32 0)) ++ ((List.replicate 64 (0 : UInt8)).map bv ++ [Value.int .i64 0, Value.int .u64 0])).toArray := ⟨_, rfl⟩
  have hz := fun W : World => (by rw [hZ0]; kernel_rfl : (zeroValue 55).run Tryd.prog W = .ok (.agg Z0) W)
  have HZP : Hid (Z0.size = hash0.size) := by show _ = _; rw [hZ0]; decide
  have HSZ : Hid ((Tryd.prog.info? 55).map (·.size) = some hash0.size) := by show _ = _; kernel_rfl
  have HUD : Hid (Tryd.prog.underlying 29 = _) := Lib.hid Tryd.underlying29
  clear hZ0
  go_enter Tryd.func31, Tryd.ntmps31
  go_wp2_with fail
  obtain ⟨w1, hw1⟩ : ∃ w1, w1 = w.alloc (.cells (bvA (List.replicate 32 0)) 29) := ⟨_, rfl⟩
  have hB1 : Below w.heap.size w w1 := hw1 ▸ (Below.refl _ _).alloc (Nat.le_refl _) _
  have hD1 : BB w1 w.heap.size 29 (List.replicate 32 0) := hw1 ▸ BB.new w _ _
  change Calls _ _ _ (w.alloc (.cells (bvA (List.replicate 32 0)) 29)) _
  rw [← hw1]
  clear hw1
  refine (newHasher_any w1 (HT.out.below hB1 h0)).mono ?_
  rintro e w2 ⟨rfl, hb2⟩
  have hD2 := hD1.below hb2 hD1.lt
  have hB2 := hB1.trans (hb2.mono hB1.size)
  have HD2 := Lib.hid hD2
  have HB2 := Lib.hid hB2
  clear hD1 hD2 hB1 hB2 hb2
  go_wp2_with (refine wpList_storeA rfl 55 (.tmp 3) (.tmp 4) rfl w2.heap.size hash0 rfl rfl 55 _ (heap_alloc_new w2 _) HSZ.out HZP.out hash0_one ?_)
  intro w3 h3 hg3
  have hlt2 := HD2.out.lt
  have hB3 : Below w2.heap.size w2 w3 := grown_below ((Below.refl _ _).alloc (Nat.le_refl _) _) hg3 (Nat.le_refl _) (by simp)
  have HD3 := Lib.hid (HD2.out.below hB3 hlt2)
  have HB3 := Lib.hid (HB2.out.trans (hB3.mono HB2.out.size))
  have HM3 := Lib.hid (HM.init h3)
  have hs3 : w2.heap.size < w3.heap.size := HM3.out.lt
  clear h3 hg3 hB3 HD2
  go_wp2_with fail
  have hle := HB2.out.size
  refine (write_any w2.heap.size [] a cap l w3 (HT.out.below HB3.out h0) (by omega) HM3.out (HL.out.rdX HB3.out (by omega) (by omega)) hcap hc2 (by simp; omega)).mono ?_
  rintro e w4 ⟨rfl, hm4, hg4⟩
  rw [List.nil_append] at hm4
  have HM4 := Lib.hid hm4
  have HD4 := Lib.hid (HD3.out.grown hg4 (by omega))
  have HB4 := Lib.hid (grown_below HB3.out hg4 (by omega) (by omega))
  have hs4 := hg4.size
  clear hm4 hg4 HM3 HD3 HB3
  go_wp2_with fail
  refine (end_any w2.heap.size l w4 (HT.out.below HB4.out h0) (by omega) HM4.out hn).mono ?_
  rintro e w5 ⟨rfl, hg5⟩
  have HD5 := Lib.hid (HD4.out.grown hg5 (by omega))
  have HB5 := Lib.hid (grown_below HB4.out hg5 (by omega) (by omega))
  clear hg5 HM4 HD4 HB4
  have HSD : Hid ((Tryd.prog.info? 29).map (·.size) = some (bvA (sha l)).size) := by show _ = _; rw [bvA_size, sha_len]; exact sha_size
  have HOD : Hid ((bvA (List.replicate 32 0)).size = (bvA (sha l)).size) := by show _ = _; rw [bvA_size, bvA_size, sha_len, List.length_replicate]
  go_wp2_with (refine wpList_storeA rfl 29 (.tmp 2) (.tmp 7) rfl w.heap.size (bvA (sha l)) rfl rfl 29 _ HD5.out HSD.out HOD.out (bvA_one _) ?_)
  intro w6 h6 hg6
  have hB6 := grown_below HB5.out hg6 (Nat.le_refl _) HB5.out.size
  go_wp2_with fail
  refine bodyPost_ret (v := .agg (bvA (sha l))) ?_ rfl ⟨rfl, hB6⟩
  exact results_cell_row rfl _ _ w.heap.size 29 _ (0, 0) _ rfl h6 HUD.out rfl HSD.out
end Go.Proofs.YtmeoicfeiamkmaaDoor
