/-
  Package derive: Scalar. The reference: First, Purpose, Expand, Mix, Step, Scalar.
-/
import Derived.Test.YtecojpkefobgpaaDoorDh
import Derived.Test.YtecojpkefobgpaaDoorPkH
import Derived.Test.YtecojpkefobgpaaDoorPkR
namespace Go.Proofs.YtecojpkefobgpaaDoor
open Go.RowKit
set_option linter.unusedVariables false
set_option linter.unusedSimpArgs false

/-- The private key of a key and a label. -/
def scS (K : List UInt8) (s : ByteArray) : Nat := scalS (tagS tagScalar (expS K s []))
theorem scS_bd (K : List UInt8) (s : ByteArray) : 1 ≤ scS K s ∧ scS K s < 2305843009213688669 := scalS_bd _
theorem BB.rdBm {w : World} {g : Nat} {T : TypeId} {l : List UInt8} (h : BB w g T l) (hl : l.length = 32) : RdB w.heap.size w (some ⟨g, 0, none⟩) l := h.rdB (len32 hl)

set_option maxRecDepth 100000 in
set_option maxHeartbeats 1600000 in
theorem DScalar_any (K : List UInt8) (hK : K.length = 32) (s : ByteArray) (w : World) (hT : Tab w) (hs : s.size ≤ 100000) :
    Calls Tryd.prog 22 #[.agg (bvA K), .string s] w fun e w' => e = .returned (.int .i64 (scS K s : Nat)) ∧ Below w.heap.size w w' := by
  have HT := Lib.hid hT
  have HK := Lib.hid hK
  have HEX := Lib.hid (fun W hW => Expand_any K hK s none 0 [] W hW hs (RdM.nil _ _ _) (by decide) (fun _ h => by cases h))
  obtain ⟨x, hx⟩ : ∃ x, scS K s = x := ⟨_, rfl⟩
  have HX : Hid (scalS (tagS tagScalar (expS K s [])) = x) := Lib.hid hx
  have HEL := Lib.hid (expS_len K s [])
  obtain ⟨E, hE⟩ : ∃ E, expS K s [] = E := ⟨_, rfl⟩
  rw [hE] at HEX HEL HX
  rw [hx]
  have hA1 : BB (w.alloc (.cells (bvA K) 23)) w.heap.size 23 K := BB.new w _ _
  have hB1 : Below w.heap.size w (w.alloc (.cells (bvA K) 23)) := (Below.refl _ _).alloc (Nat.le_refl _) _
  clear hT hK hE hx
  have HA1 := Lib.hid hA1
  have HB1 := Lib.hid hB1
  clear hA1 hB1
  go_enter Tryd.func22, Tryd.ntmps22
  go_wp2_with (first
    | (refine wpList_load_row rfl 23 (.tmp 2) rfl w.heap.size rfl _ (bvA K) (0, 0) _ HA1.out Tryd.underlying23 rfl (key_sz _ HK.out) ?_)
    | (go_at_call 23; refine (HEX.out _ (HT.out.below HB1.out HT.out.lt)).mono ?_; rintro e w2 ⟨rfl, hb2⟩; refine Hid.out ?_))
  refine Lib.hid ?_
  have HB2 := Lib.hid (HB1.out.trans (hb2.mono HB1.out.size))
  clear hb2 HA1 HB1
  go_wp2_with (refine wpList_storeA rfl 23 (.tmp 5) (.tmp 8) rfl w2.heap.size (bvA E) rfl rfl 23 _ (BB.new w2 _ (List.replicate 32 0)) (key_sz _ HEL.out) (key_old _ HEL.out) (bvA_one _) ?_)
  intro w3 h3 hg3
  have HA3 : Hid (BB w3 w2.heap.size 23 E) := Lib.hid h3
  have hb3 : Below w2.heap.size w2 w3 := grown_below ((Below.refl _ _).alloc (Nat.le_refl _) _) hg3 (Nat.le_refl _) (by simp)
  have HB3 := Lib.hid (HB2.out.trans (hb3.mono HB2.out.size))
  clear h3 hg3 hb3 HB2
  have hc := gScalar ⟨#[115, 99, 97, 108, 97, 114]⟩ (some ⟨w2.heap.size, 0, none⟩) 32 E w3 (HT.out.below HB3.out HT.out.lt) (HA3.out.rdBm HEL.out) (by rw [HEL.out]; omega) (by unfold maxLen; omega) (by decide) (by rw [HEL.out]; omega)
  rw [HEL.out, show scalS (tagS (ByteArray.mk #[115, 99, 97, 108, 97, 114]).data.toList E) = x from HX.out] at hc
  have HC := Lib.hid hc
  clear hc HA3
  generalize w2.heap.size = g at *
  go_wp2_with (go_at_call 39; refine HC.out.mono ?_; rintro e w4 ⟨rfl, hb4⟩)
  go_ret
  exact ⟨rfl, HB3.out.trans (hb4.mono HB3.out.size)⟩

/-! ### The reference -/
end Go.Proofs.YtecojpkefobgpaaDoor
