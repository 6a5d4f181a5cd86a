/-
  Package derive: Expand and Mix.
-/
import Derived.Test.YtecojpkefobgpaaGreatDoorDd
namespace Go.Proofs.YtecojpkefobgpaaGreatDoor
open Go.RowKit
set_option linter.unusedVariables false
set_option linter.unusedSimpArgs false

/-- What a key expands to. -/
def expS (K : List UInt8) (s : ByteArray) (ns : List Int) : List UInt8 := tagS tagDerive (K ++ purpS s ns)
theorem expS_len (K : List UInt8) (s : ByteArray) (ns : List Int) : (expS K s ns).length = 32 := tagS_len _ _
/-- What a label and two keys are mixed to. -/
def mixS (s : ByteArray) (a b : List UInt8) : List UInt8 := tagS tagMix (sha s.data.toList ++ a ++ b)
theorem mixS_len (s : ByteArray) (a b : List UInt8) : (mixS s a b).length = 32 := tagS_len _ _

theorem BB.rdx {w : World} {R g : Nat} {T : TypeId} {l : List UInt8} (h : BB w g T l) (hne : g ≠ R) (hl : l.length ≤ maxLen) : RdX R w (some ⟨g, 0, none⟩) l :=
  ⟨hl, .inr ⟨g, 0, rfl, h.lt, hne, fun j hj => by rw [Nat.zero_add]; exact h.cell j hj⟩⟩
theorem OwnB.rdx {B R : Nat} {w : World} {a : Option Addr} {n cap : Nat} {l : List UInt8} (h : OwnB B w (.slice a n cap) l) (hR : R < B) : RdX R w a l := by
  obtain ⟨a', cap', e, hc, hr⟩ := h.form
  cases e
  refine ⟨hr.1, hr.2.imp_right ?_⟩
  rintro ⟨b, o, rfl, hb, hcell⟩
  rcases hc with ⟨e, _⟩ | ⟨g, e, hg, _⟩
  · cases e
  · cases e
    exact ⟨b, 0, rfl, hb, by omega, hcell⟩
theorem len32 {K : List UInt8} (h : K.length = 32) : K.length ≤ maxLen := by rw [h]; unfold maxLen; omega

/-- A key, a result and a source: the three blocks. -/
structure E3 (w : World) (tag : ByteArray) (K m : List UInt8) (w' : World) : Prop where
  below : Below w.heap.size w w'
  key : BB w' w.heap.size 24 K
  out : BB w' (w.heap.size + 1) 24 (List.replicate 32 0)
  src : Src (w.heap.size + 2) w' (w.heap.size + 2) tag m
  size : w.heap.size + 3 ≤ w'.heap.size
theorem E3.start (w : World) (tag : ByteArray) (K : List UInt8) : E3 w tag K [] (((w.alloc (.cells (bvA K) 24)).alloc (.cells (bvA (List.replicate 32 0)) 24)).alloc (.cells #[.string tag, .slice none 0 0, .int .i64 0, .int .i8 0] 69)) := by
  refine ⟨(((Below.refl _ _).alloc (Nat.le_refl _) _).alloc (by simp) _).alloc (by simp; omega) _, ((BB.new w _ _).alloc _).alloc _, BB.alloc ?_ _, Src.new' tag _ (by simp) (by simp), by simp⟩
  exact heap_alloc2_new w _ _
theorem E3.write {w w' w'' : World} {tag : ByteArray} {K m m' : List UInt8} (h : E3 w tag K m w') (hb : Below (w.heap.size + 2) w' w'') (hs : Src (w.heap.size + 2) w'' (w.heap.size + 2) tag m') : E3 w tag K m' w'' :=
  ⟨h.below.trans (hb.mono (by omega)), h.key.below hb (by omega), h.out.below hb (by omega), hs, Nat.le_trans h.size hb.size⟩
theorem E3.call {w w' w'' : World} {tag : ByteArray} {K m : List UInt8} (h : E3 w tag K m w') (hb : Below w'.heap.size w' w'') : E3 w tag K m w'' :=
  ⟨h.below.trans (hb.mono h.below.size), h.key.below hb h.key.lt, h.out.below hb h.out.lt, h.src.call hb, Nat.le_trans h.size hb.size⟩

set_option maxRecDepth 100000 in
set_option maxHeartbeats 1600000 in
theorem Expand_any (K : List UInt8) (hK : K.length = 32) (s : ByteArray) (a : Option Addr) (cap : Nat) (ns : List Int) (w : World) (hT : Tab w) (hs : s.size ≤ 100000) (hr : RdM w.heap.size w a ns) (hl : ns.length ≤ 1000) (hI : ∀ n ∈ ns, I64 n) :
    Calls Tryz.prog 32 #[.agg (bvA K), .string s, .slice a ns.length cap] w fun e w' => e = .returned (.agg (bvA (expS K s ns))) ∧ Below w.heap.size w w' := by
  have HT := Lib.hid hT
  have HK := Lib.hid hK
  have HR := Lib.hid hr
  have HP := Lib.hid (purpS_pos s ns)
  have HPL : Hid ((purpS s ns).length ≤ 200000) := Lib.hid (by have := purpS_len s ns; omega)
  have HEN := Lib.hid (fun W h => encoding_any s a cap ns W hs h hl hI)
  have HL := Lib.hid (expS_len K s ns)
  have HX0 : Hid (expS K s ns = tagS tagDerive (K ++ purpS s ns)) := Lib.hid rfl
  generalize expS K s ns = X at *
  obtain ⟨P, hP⟩ : ∃ P, purpS s ns = P := ⟨_, rfl⟩
  rw [hP] at HP HPL HX0
  have HPE := Lib.hid hP
  clear hT hK hr hI hP
  go_enter Tryz.func32, Tryz.ntmps32
  go_wp2_with fail
  have HE1 := Lib.hid (E3.start w ⟨#[100, 101, 114, 105, 118, 101]⟩ K)
  obtain ⟨w1, hw1⟩ : ∃ w1, w1 = ((w.alloc (.cells (bvA K) 24)).alloc (.cells (bvA (List.replicate 32 0)) 24)).alloc (.cells #[.string ⟨#[100, 101, 114, 105, 118, 101]⟩, .slice none 0 0, .int .i64 0, .int .i8 0] 69) := ⟨_, rfl⟩
  change Calls _ _ _ (((w.alloc (.cells (bvA K) 24)).alloc (.cells (bvA (List.replicate 32 0)) 24)).alloc (.cells #[.string ⟨#[100, 101, 114, 105, 118, 101]⟩, .slice none 0 0, .int .i64 0, .int .i8 0] 69)) _
  rw [← hw1] at HE1 ⊢
  clear hw1
  have hk := src_write (some ⟨w.heap.size, 0, none⟩) 32 K HE1.out.src (by have := HE1.out.size; omega) (HE1.out.key.rdx (by omega) (len32 HK.out)) (by rw [HK.out]; omega) (by rw [HK.out]; simp)
  rw [HK.out, List.nil_append] at hk
  refine hk.mono ?_
  rintro e w2 ⟨rfl, hs2, hb2⟩
  have HE2 := Lib.hid (HE1.out.write hb2 hs2)
  clear hk hs2 hb2 HE1
  go_wp2_with (go_at_call 48; refine (HEN.out w2 ((HR.out.below HE2.out.below).mono HE2.out.below.size)).mono ?_; rintro e w3 ⟨v3, rfl, ho3, hb3⟩)
  rw [HPE.out] at ho3
  have HE3 := Lib.hid (HE2.out.call hb3)
  have HO3 := Lib.hid ho3
  obtain ⟨a3, cap3, rfl, _, _⟩ := ho3.form
  have hk := src_write a3 cap3 P HE3.out.src (by have := HE3.out.size; omega) (HO3.out.rdx (by have := HE2.out.size; omega)) HP.out (by rw [HK.out]; have := HPL.out; omega)
  have HKW := Lib.hid hk
  clear hk hb3 ho3 HE2
  have HSUM : Hid ((K ++ P).length ≤ 1000000) := Lib.hid (by rw [List.length_append, HK.out]; have := HPL.out; omega)
  generalize P.length = pl at *
  go_wp2_with (go_at_call 47; refine HKW.out.mono ?_; rintro e w4 ⟨rfl, hs4, hb4⟩)
  have HE4 := Lib.hid (HE3.out.write hb4 hs4)
  clear hs4 hb4 HE3 HKW HO3
  have hky := key_any HE4.out.src (HT.out.below HE4.out.below HT.out.lt) (by decide) HSUM.out
  rw [show tagS (ByteArray.mk #[100, 101, 114, 105, 118, 101]).data.toList (K ++ P) = X from HX0.out.symm] at hky
  have HKY := Lib.hid hky
  clear hky
  go_wp2_with (go_at_call 49; refine HKY.out.mono ?_; rintro e w5 ⟨rfl, hb5⟩; refine Hid.out ?_)
  refine Lib.hid ?_
  have HD5 := Lib.hid (HE4.out.out.below hb5 HE4.out.out.lt)
  have HB5 := Lib.hid (HE4.out.below.trans (hb5.mono HE4.out.below.size))
  clear hb5 HE4 HKY
  go_wp2_with (refine wpList_storeA rfl 24 (.tmp 6) (.tmp 17) rfl (w.heap.size + 1) (bvA X) rfl rfl 24 _ HD5.out (key_sz _ HL.out) (key_old _ HL.out) (bvA_one _) ?_)
  intro w9 h9 hg9
  have hB9 := grown_below HB5.out hg9 (Nat.le_succ _) HB5.out.size
  go_wp2_with fail
  refine bodyPost_ret (v := .agg (bvA X)) ?_ rfl ⟨rfl, hB9⟩
  exact results_cell_row rfl _ _ (w.heap.size + 1) 24 _ (0, 0) _ rfl h9 key_und rfl (key_sz _ HL.out)

/-- Two keys and a result. -/
structure M3 (w : World) (A B : List UInt8) (w' : World) : Prop where
  below : Below w.heap.size w w'
  ka : BB w' w.heap.size 24 A
  kb : BB w' (w.heap.size + 1) 24 B
  out : BB w' (w.heap.size + 2) 24 (List.replicate 32 0)
theorem M3.start (w : World) (A B : List UInt8) : M3 w A B (((w.alloc (.cells (bvA A) 24)).alloc (.cells (bvA B) 24)).alloc (.cells (bvA (List.replicate 32 0)) 24)) := by
  refine ⟨(((Below.refl _ _).alloc (Nat.le_refl _) _).alloc (by simp) _).alloc (by simp; omega) _, ((BB.new w _ _).alloc _).alloc _, BB.alloc ?_ _, ?_⟩
  · exact heap_alloc2_new w _ _
  · have := BB.new ((w.alloc (.cells (bvA A) 24)).alloc (.cells (bvA B) 24)) 24 (List.replicate 32 0)
    simpa using this
theorem M3.call {w w' w'' : World} {A B : List UInt8} (h : M3 w A B w') {N : Nat} (hb : Below N w' w'') (hN : w.heap.size + 3 ≤ N) : M3 w A B w'' :=
  ⟨h.below.trans (hb.mono (by omega)), h.ka.below hb (by omega), h.kb.below hb (by omega), h.out.below hb (by omega)⟩
theorem M3.size {w w' : World} {A B : List UInt8} (h : M3 w A B w') : w.heap.size + 3 ≤ w'.heap.size := by have := h.out.lt; omega
/-- And a digest and a source. -/
structure M4 (w : World) (A B D : List UInt8) (g b : Nat) (tag : ByteArray) (m : List UInt8) (w' : World) : Prop where
  m3 : M3 w A B w'
  dig : BB w' g 76 D
  src : Src b w' b tag m
theorem M4.write {w w' w'' : World} {A B D m m' : List UInt8} {g b : Nat} {tag : ByteArray} (h : M4 w A B D g b tag m w') (hg : w.heap.size + 3 ≤ g ∧ g < b) (hb : Below b w' w'') (hs : Src b w'' b tag m') : M4 w A B D g b tag m' w'' :=
  ⟨h.m3.call hb (by omega), h.dig.below hb hg.2, hs⟩
theorem dig_sz (m : List UInt8) (h : m.length = 32) : (Tryz.prog.info? 76).map (·.size) = some (bvA m).size := by rw [bvA_size, h]; kernel_rfl

end Go.Proofs.YtecojpkefobgpaaGreatDoor
