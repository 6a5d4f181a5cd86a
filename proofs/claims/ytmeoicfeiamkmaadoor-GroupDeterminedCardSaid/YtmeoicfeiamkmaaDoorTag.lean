/-
  tagged and Tagged of package digest.
-/
import Derived.Test.YtmeoicfeiamkmaaDoorSum
import Derived.Lib.ConvBytes
namespace Go.Proofs.YtmeoicfeiamkmaaDoor
open Go.RowKit

/-- The slice at a, of n elements, holds slices of bytes. -/
def RdBs (B : Nat) (w : World) (a : Option Addr) (ps : List (List UInt8)) : Prop :=
  ps.length ≤ maxLen ∧ (ps = [] ∨ ∃ b o, a = some ⟨b, o, none⟩ ∧ b < B ∧ ∀ j (h : j < ps.length), ∃ a' cap', w.cell? ⟨b, o + j, none⟩ = some (.slice a' ps[j].length cap') ∧ RdB B w a' ps[j] ∧ ps[j].length ≤ cap' ∧ cap' ≤ maxLen)
theorem RdBs.at_ {B : Nat} {w : World} {a : Option Addr} {ps : List (List UInt8)} (h : RdBs B w a ps) (hk : 0 < ps.length) : ∃ b o, a = some ⟨b, o, none⟩ ∧ b < B ∧ ∀ j (h : j < ps.length), ∃ a' cap', w.cell? ⟨b, o + j, none⟩ = some (.slice a' ps[j].length cap') ∧ RdB B w a' ps[j] ∧ ps[j].length ≤ cap' ∧ cap' ≤ maxLen := by
  rcases h.2 with h2 | h2
  · subst h2; simp at hk
  · exact h2

def tagS (tag : List UInt8) (m : List UInt8) : List UInt8 := sha (sha tag ++ m)
theorem tagS_len (tag m : List UInt8) : (tagS tag m).length = 32 := sha_len _
theorem below_bytesWorld (w : World) (e : TypeId) (s : ByteArray) : Below w.heap.size w (Lib.bytesWorld w e s) :=
  ⟨rfl, rfl, rfl, by rw [Lib.bytesWorld_size]; omega, fun k hk => Lib.bytesWorld_at_old w e s k hk⟩
theorem rd_bytesWorld (w : World) (e : TypeId) (s : ByteArray) (hs : s.size ≤ maxLen) : RdB (Lib.bytesWorld w e s).heap.size (Lib.bytesWorld w e s) (some ⟨w.heap.size, 0, none⟩) s.data.toList := by
  refine ⟨hs, .inr ⟨w.heap.size, 0, rfl, by rw [Lib.bytesWorld_size]; omega, fun j hj => ?_⟩⟩
  rw [Nat.zero_add, Lib.bytesWorld_cell w e s j hj]
  simp only [bv]
  congr 3
  rw [List.getD_eq_getElem?_getD, List.getElem?_eq_getElem hj]; rfl
theorem flat_snoc (ps : List (List UInt8)) (k : Nat) (h : k < ps.length) : (ps.take (k + 1)).flatten = (ps.take k).flatten ++ ps[k] := by
  rw [List.take_succ_eq_append_getElem h]; simp only [List.flatten_append, List.flatten_cons, List.flatten_nil, List.append_nil]
theorem flat_le (ps : List (List UInt8)) (k : Nat) : (ps.take k).flatten.length ≤ ps.flatten.length := by
  have h : ps.flatten = (ps.take k).flatten ++ (ps.drop k).flatten := by rw [← List.flatten_append, List.take_append_drop]
  rw [h, List.length_append]; omega

set_option maxRecDepth 100000 in
set_option maxHeartbeats 1600000 in
theorem tagged_any (s : ByteArray) (a : Option Addr) (cap : Nat) (ps : List (List UInt8)) (w : World) (hT : Tab w) (hl : RdBs w.heap.size w a ps) (hcap : ps.length ≤ cap) (hc2 : cap ≤ maxLen) (hs : s.size ≤ 1152921504606846000) (hn : ps.flatten.length ≤ 1152921504606840000) :
    Calls Tryd.prog 22 #[.string s, .slice a ps.length cap] w fun e w' => e = .returned (.agg (bvA (tagS s.data.toList ps.flatten))) ∧ Below w.heap.size w w' := by
  unfold maxLen at hc2
  have h0 : 4 ≤ w.heap.size := hT.lt
  have HT := Lib.hid hT
  have HL := Lib.hid hl
  clear hT hl
  obtain ⟨Z0, hZ0⟩ : ∃ Z0, Z0 = ((List.replicate 8 (Value.int .u32 0)) ++ ((List.replicate 64 (0 : UInt8)).map bv ++ [Value.int .i64 0, Value.int .u64 0])).toArray := ⟨_, rfl⟩
  have hz := fun W : World => (by rw [hZ0]; kernel_rfl : (zeroValue 55).run Tryd.prog W = .ok (.agg Z0) W)
  have HZP : Hid (Z0.size = hash0.size) := by show _ = _; rw [hZ0]; decide
  have HSZ : Hid ((Tryd.prog.info? 55).map (·.size) = some hash0.size) := by show _ = _; kernel_rfl
  have HUD : Hid (Tryd.prog.underlying 29 = _) := Lib.hid Tryd.underlying29
  have HSD : Hid (∀ m, (Tryd.prog.info? 29).map (·.size) = some (bvA (sha m)).size) := by show ∀ m, _ = _; intro m; rw [bvA_size, sha_len]; exact sha_size
  have HOD : Hid (∀ m, (bvA (List.replicate 32 0)).size = (bvA (sha m)).size) := by show ∀ m, _ = _; intro m; rw [bvA_size, bvA_size, sha_len, List.length_replicate]
  clear hZ0
  have hcv := fun W : World => Lib.run_convert_string_bytes (P := Tryd.prog) W 9 22 5 s Tryd.underlying9 Tryd.underlying22 Tryd.underlying5
  go_enter Tryd.func22, Tryd.ntmps22
  go_wp2_with fail
  obtain ⟨w1, hw1⟩ : ∃ w1, w1 = w.alloc (.cells (bvA (List.replicate 32 0)) 29) := ⟨_, rfl⟩
  have hB1 : Below w.heap.size w w1 := hw1 ▸ (Below.refl _ _).alloc (Nat.le_refl _) _
  have hD1 : BB w1 w.heap.size 29 (List.replicate 32 0) := hw1 ▸ BB.new w _ _
  have hs1 : w1.heap.size = w.heap.size + 1 := by rw [hw1]; simp
  change Calls _ _ #[.slice (some ⟨w.heap.size + 1, 0, none⟩) s.data.toList.length (grownCap (w.alloc (.cells (bvA (List.replicate 32 0)) 29)) s.size 0 5)] (Lib.bytesWorld (w.alloc (.cells (bvA (List.replicate 32 0)) 29)) 5 s) _
  rw [← hw1, ← hs1]
  have hB2 := hB1.trans ((below_bytesWorld w1 5 s).mono hB1.size)
  have hD2 := hD1.below (below_bytesWorld w1 5 s) hD1.lt
  refine (sum_any (some ⟨w1.heap.size, 0, none⟩) (grownCap w1 s.size 0 5) s.data.toList (Lib.bytesWorld w1 5 s) (HT.out.below hB2 h0) (rd_bytesWorld w1 5 s (by unfold maxLen; omega)) (grownCap_ge w1 s.size 0 _) (grownCap_le_maxLen w1 s.size 0 _ (by unfold maxLen; omega)) hs).mono ?_
  rintro e w2 ⟨rfl, hb2⟩
  have hsz2 : w1.heap.size < (Lib.bytesWorld w1 5 s).heap.size := by rw [Lib.bytesWorld_size]; omega
  have HD2 := Lib.hid (hD2.below hb2 hD2.lt)
  have HB2 := Lib.hid (hB2.trans (hb2.mono hB2.size))
  clear hB2 hD2 hb2 hsz2 hs1 hB1 hD1 hw1 hcv
  go_wp2_with (refine wpList_storeA rfl 29 (.tmp 5) (.tmp 11) rfl w2.heap.size (bvA (sha s.data.toList)) rfl rfl 29 (bvA (List.replicate 32 0)) (heap_alloc_new w2 _) (HSD.out _) (HOD.out _) (bvA_one _) ?_)
  intro w3 h3 hg3
  have hB3 : Below w2.heap.size w2 w3 := grown_below ((Below.refl _ _).alloc (Nat.le_refl _) _) hg3 (Nat.le_refl _) (by simp)
  have HT3 := Lib.hid (show BB w3 w2.heap.size 29 (sha s.data.toList) from h3)
  have HD3 := Lib.hid (HD2.out.below hB3 HD2.out.lt)
  have HB3 := Lib.hid (HB2.out.trans (hB3.mono HB2.out.size))
  have hlt3 := HT3.out.lt
  have hlt2 := HD2.out.lt
  clear h3 hg3 hB3 HD2 HB2
  go_wp2_with fail
  refine (newHasher_any w3 (HT.out.below HB3.out h0)).mono ?_
  rintro e w4 ⟨rfl, hb4⟩
  have HT4 := Lib.hid (HT3.out.below hb4 hlt3)
  have HD4 := Lib.hid (HD3.out.below hb4 (by omega))
  have HB4 := Lib.hid (HB3.out.trans (hb4.mono HB3.out.size))
  have hs4 := hb4.size
  clear hb4 HT3 HD3 HB3
  go_wp2_with (refine wpList_storeA rfl 55 (.tmp 6) (.tmp 12) rfl w4.heap.size hash0 rfl rfl 55 _ (heap_alloc_new w4 _) HSZ.out HZP.out hash0_one ?_)
  intro w5 h5 hg5
  have hB5 : Below w4.heap.size w4 w5 := grown_below ((Below.refl _ _).alloc (Nat.le_refl _) _) hg5 (Nat.le_refl _) (by simp)
  have HT5 := Lib.hid (HT4.out.below hB5 (by omega))
  have HD5 := Lib.hid (HD4.out.below hB5 (by omega))
  have HB5 := Lib.hid (HB4.out.trans (hB5.mono (by omega)))
  have HM5 := Lib.hid (HM.init h5)
  have hs5 := HM5.out.lt
  clear h5 hg5 hB5 HT4 HD4 HB4
  go_wp2_with fail
  have hw := write_any w4.heap.size [] (some ⟨w2.heap.size, 0, none⟩) 32 (sha s.data.toList) w5 (HT.out.below HB5.out h0) (by omega) HM5.out (by have h := HT5.out.rd (R := w4.heap.size) (by omega) (by rw [sha_len]; unfold maxLen; omega) 32; rwa [List.take_of_length_le (by rw [sha_len]; omega)] at h) (by rw [sha_len]; omega) (by unfold maxLen; omega) (by rw [sha_len]; simp)
  rw [sha_len, List.nil_append] at hw
  refine hw.mono ?_
  rintro e w6 ⟨rfl, hm6, hg6⟩
  clear hw
  have HM6 := Lib.hid hm6
  have HD6 := Lib.hid (HD5.out.grown hg6 (by omega))
  have HB6 := Lib.hid (grown_below HB5.out hg6 (by omega) (by omega))
  have hs6 := hg6.size
  clear hm6 hg6 HM5 HT5 HD5 HB5
  go_wp2_with fail
  go_loopw [17] (fun i wr => ∃ k : Nat, k ≤ ps.length ∧ i = .int .i64 k ∧ HM wr w4.heap.size (sha s.data.toList ++ (ps.take k).flatten) ∧ BB wr w.heap.size 29 (List.replicate 32 0) ∧ Below w.heap.size w wr) (fun i _ => ps.length - (intOf i).toNat)
  case atStart => exact ⟨0, by omega, rfl, by simpa using HM6.out, HD6.out, HB6.out⟩
  case round =>
    clear HM6 HD6 HB6
    obtain ⟨k, hk, rfl, hm, hd, hb⟩ := hrel
    have HMr := Lib.hid hm
    have HDr := Lib.hid hd
    have HBr := Lib.hid hb
    clear hm hd hb
    by_cases hlt : k < ps.length
    · obtain ⟨b, o, rfl, hbB, hcell⟩ := HL.out.at_ (by omega)
      obtain ⟨a', cap', hck, hrd, hc1, hc3⟩ := hcell k hlt
      have hck2 := (HBr.out.cell (p := ⟨b, o + k, none⟩) hbB).trans hck
      have hfl := flat_le ps (k + 1)
      have HF := Lib.hid (flat_snoc ps k hlt)
      have hfl2 : (ps.take k).flatten.length + ps[k].length ≤ ps.flatten.length := by rw [HF.out, List.length_append] at hfl; exact hfl
      have HRD := Lib.hid hrd
      clear hcell hck hrd hfl
      generalize ps[k] = pk at *
      go_wp2_with fail
      refine (write_any w4.heap.size _ a' cap' pk wr (HT.out.below HBr.out h0) (by omega) HMr.out (HRD.out.rdX HBr.out HBr.out.size (by omega)) hc1 hc3 (by rw [List.length_append, sha_len]; omega)).mono ?_
      rintro e w7 ⟨rfl, hm7, hg7⟩
      rw [List.append_assoc, ← HF.out] at hm7
      have HM7 := Lib.hid hm7
      have HD7 := Lib.hid (HDr.out.grown hg7 (by omega))
      have HB7 := Lib.hid (grown_below HBr.out hg7 (by omega) HBr.out.size)
      clear hm7 hg7
      go_wp2_with fail
      go_roundw
      case rel => exact ⟨k + 1, by omega, by go_num, HM7.out, HD7.out, HB7.out⟩
      case measure => simp [intOf]; omega
    · obtain rfl : k = ps.length := by omega
      have hmr := HMr.out
      rw [List.take_length] at hmr
      have hee := end_any w4.heap.size _ wr (HT.out.below HBr.out h0) (by omega) hmr (by rw [List.length_append, sha_len]; omega)
      have HE := Lib.hid hee
      clear hmr hee hlt
      go_wp2_with fail
      refine HE.out.mono ?_
      rintro e w8 ⟨rfl, hg8⟩
      have HD8 := Lib.hid (HDr.out.grown hg8 (by omega))
      have HB8 := Lib.hid (grown_below HBr.out hg8 (by omega) HBr.out.size)
      clear hg8
      go_wp2_with (refine wpList_storeA rfl 29 (.tmp 4) (.tmp 24) rfl w.heap.size (bvA (tagS s.data.toList ps.flatten)) rfl rfl 29 _ HD8.out (HSD.out _) (HOD.out _) (bvA_one _) ?_)
      intro w9 h9 hg9
      have hB9 := grown_below HB8.out hg9 (Nat.le_refl _) HB8.out.size
      go_wp2_with fail
      refine bodyPost_ret (v := .agg (bvA (tagS s.data.toList ps.flatten))) ?_ rfl ⟨rfl, hB9⟩
      exact results_cell_row rfl _ _ w.heap.size 29 _ (0, 0) _ rfl h9 HUD.out rfl (HSD.out _)
end Go.Proofs.YtmeoicfeiamkmaaDoor
