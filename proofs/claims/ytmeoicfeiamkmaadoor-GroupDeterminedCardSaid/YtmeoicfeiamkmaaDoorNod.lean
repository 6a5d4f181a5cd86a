/-
  Tagged, leaf, node and Chain of package digest.
-/
import Derived.Test.YtmeoicfeiamkmaaDoorTag
namespace Go.Proofs.YtmeoicfeiamkmaaDoor
open Go.RowKit

theorem sha_sz (m : List UInt8) : (Tryd.prog.info? 29).map (·.size) = some (bvA (sha m)).size := by rw [bvA_size, sha_len]; exact sha_size
theorem sha_old (m : List UInt8) : (bvA (List.replicate 32 0)).size = (bvA (sha m)).size := by rw [bvA_size, bvA_size, sha_len, List.length_replicate]
theorem digest_und : Tryd.prog.underlying 29 = some (.array 32 5) := Tryd.underlying29
theorem RdB.below' {B : Nat} {w w' : World} {a : Option Addr} {l : List UInt8} (h : RdB w.heap.size w a l) (hb : Below B w w') (hB : B = w.heap.size) : RdB w'.heap.size w' a l := by
  subst hB
  exact (h.below hb).mono hb.size
theorem RdBs.one {w : World} {g : Nat} {a : Option Addr} {l : List UInt8} {cap : Nat} (hg : w.cell? ⟨g, 0, none⟩ = some (.slice a l.length cap)) (h : RdB w.heap.size w a l) (hc : l.length ≤ cap) (hm : cap ≤ maxLen) : RdBs w.heap.size w (some ⟨g, 0, none⟩) [l] := by
  refine ⟨by unfold maxLen; simp, .inr ⟨g, 0, rfl, World.block_lt_of_cell? w _ hg, fun j hj => ?_⟩⟩
  obtain rfl : j = 0 := by simpa using hj
  exact ⟨a, cap, hg, h, hc, hm⟩
theorem RdBs.two {w : World} {g : Nat} {a a2 : Option Addr} {l l2 : List UInt8} {cap cap2 : Nat} (hg : w.cell? ⟨g, 0, none⟩ = some (.slice a l.length cap)) (hg2 : w.cell? ⟨g, 1, none⟩ = some (.slice a2 l2.length cap2))
    (h : RdB w.heap.size w a l) (hc : l.length ≤ cap) (hm : cap ≤ maxLen) (h2 : RdB w.heap.size w a2 l2) (hc2 : l2.length ≤ cap2) (hm2 : cap2 ≤ maxLen) : RdBs w.heap.size w (some ⟨g, 0, none⟩) [l, l2] := by
  refine ⟨by unfold maxLen; simp, .inr ⟨g, 0, rfl, World.block_lt_of_cell? w _ hg, fun j hj => ?_⟩⟩
  have : j = 0 ∨ j = 1 := by have : j < 2 := by simpa using hj
                             omega
  rcases this with rfl | rfl
  · exact ⟨a, cap, hg, h, hc, hm⟩
  · exact ⟨a2, cap2, hg2, h2, hc2, hm2⟩
theorem BB.rdB {w : World} {g : Nat} {T : TypeId} {l : List UInt8} (h : BB w g T l) (hl : l.length ≤ maxLen) : RdB w.heap.size w (some ⟨g, 0, none⟩) l :=
  ⟨hl, .inr ⟨g, 0, rfl, h.lt, fun j hj => by rw [Nat.zero_add]; exact h.cell j hj⟩⟩

set_option maxRecDepth 100000 in
set_option maxHeartbeats 800000 in
theorem Tagged_any (s : ByteArray) (a : Option Addr) (cap : Nat) (l : List UInt8) (w : World) (hT : Tab w) (hl : RdB w.heap.size w a l) (hcap : l.length ≤ cap) (hc2 : cap ≤ maxLen) (hs : s.size ≤ 1152921504606846000) (hn : l.length ≤ 1152921504606840000) :
    Calls Tryd.prog 11 #[.string s, .slice a l.length cap] w fun e w' => e = .returned (.agg (bvA (tagS s.data.toList l))) ∧ Below w.heap.size w w' := by
  have HT := Lib.hid hT
  have HL := Lib.hid hl
  clear hT hl
  go_enter Tryd.func11, Tryd.ntmps11
  go_wp2_with fail
  obtain ⟨w1, hw1⟩ : ∃ w1, w1 = (w.alloc (.cells (bvA (List.replicate 32 0)) 29)).alloc (.cells #[.slice a l.length cap] 22) := ⟨_, rfl⟩
  have hB1 : Below w.heap.size w w1 := hw1 ▸ ((Below.refl _ _).alloc (Nat.le_refl _) _).alloc (by simp) _
  have hD1 : BB w1 w.heap.size 29 (List.replicate 32 0) := hw1 ▸ (BB.new w _ _).alloc _
  have hc1 : w1.cell? ⟨w.heap.size + 1, 0, none⟩ = some (.slice a l.length cap) := by rw [hw1, cell_of_row _ _ _ _ _ _ (heap_alloc2_new w _ _)]; rfl
  change Calls _ _ #[.string s, .slice (some ⟨w.heap.size + 1, 0, none⟩) [l].length 1] ((w.alloc (.cells (bvA (List.replicate 32 0)) 29)).alloc (.cells #[.slice a l.length cap] 22)) _
  rw [← hw1]
  clear hw1
  refine (tagged_any s (some ⟨w.heap.size + 1, 0, none⟩) 1 [l] w1 (HT.out.below hB1 HT.out.lt) (RdBs.one hc1 (HL.out.below' hB1 rfl) hcap hc2) (by simp) (by unfold maxLen; omega) hs (by simpa using hn)).mono ?_
  rintro e w2 ⟨rfl, hb2⟩
  have HD2 := Lib.hid (hD1.below hb2 hD1.lt)
  have HB2 := Lib.hid (hB1.trans (hb2.mono hB1.size))
  rw [show [l].flatten = l by simp]
  clear hb2 hD1 hB1 hc1
  go_wp2_with (refine wpList_storeA rfl 29 (.tmp 4) (.tmp 8) rfl w.heap.size (bvA (tagS s.data.toList l)) rfl rfl 29 _ HD2.out (sha_sz _) (sha_old _) (bvA_one _) ?_)
  intro w9 h9 hg9
  have hB9 := grown_below HB2.out hg9 (Nat.le_refl _) HB2.out.size
  go_wp2_with fail
  refine bodyPost_ret (v := .agg (bvA (tagS s.data.toList l))) ?_ rfl ⟨rfl, hB9⟩
  exact results_cell_row rfl _ _ w.heap.size 29 _ (0, 0) _ rfl h9 digest_und rfl (sha_sz _)

def leafS (d : List UInt8) : List UInt8 := tagS [108, 101, 97, 102] d
def nodeS (a b : List UInt8) : List UInt8 := tagS [110, 111, 100, 101] (a ++ b)
def chainS (a b : List UInt8) : List UInt8 := tagS [99, 104, 97, 105, 110] (a ++ b)

end Go.Proofs.YtmeoicfeiamkmaaDoor
