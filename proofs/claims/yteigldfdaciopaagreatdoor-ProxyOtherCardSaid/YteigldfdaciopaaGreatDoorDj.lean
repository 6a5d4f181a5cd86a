/-
  The reference of package derive: Expand, Mix, Step, Scalar.
-/
import Derived.Test.YteigldfdaciopaaGreatDoorKb
import Derived.Test.YteigldfdaciopaaGreatDoorPkD
namespace Go.Proofs.YteigldfdaciopaaGreatDoor
open Go.RowKit
set_option linter.unusedVariables false
set_option linter.unusedSimpArgs false

/-- A key's box and a result. -/
structure R2 (w : World) (K : List UInt8) (w' : World) : Prop where
  below : Below w.heap.size w w'
  key : BB w' w.heap.size 23 K
  out : BB w' (w.heap.size + 1) 23 (List.replicate 32 0)
theorem R2.start (w : World) (K : List UInt8) : R2 w K ((w.alloc (.cells (bvA K) 23)).alloc (.cells (bvA (List.replicate 32 0)) 23)) :=
  ⟨((Below.refl _ _).alloc (Nat.le_refl _) _).alloc (by simp) _, (BB.new w _ _).alloc _, heap_alloc2_new w _ _⟩
theorem R2.size {w w' : World} {K : List UInt8} (h : R2 w K w') : w.heap.size + 2 ≤ w'.heap.size := by have := h.out.lt; omega
theorem R2.call {w w' w'' : World} {K : List UInt8} (h : R2 w K w') {N : Nat} (hb : Below N w' w'') (hN : w.heap.size + 2 ≤ N) : R2 w K w'' :=
  ⟨h.below.trans (hb.mono (by omega)), h.key.below hb (by omega), h.out.below hb (by omega)⟩

set_option maxRecDepth 100000 in
set_option maxHeartbeats 1600000 in
theorem rExpand_any (K : List UInt8) (hK : K.length = 32) (s : ByteArray) (a : Option Addr) (cap : Nat) (ns : List Int) (w : World) (hs : s.size ≤ 100000) (hr : RdM w.heap.size w a ns) (hl : ns.length ≤ 1000) (hI : ∀ n ∈ ns, I64 n) :
    Calls Tryz.prog 62 #[.agg (bvA K), .string s, .slice a ns.length cap] w fun e w' => e = .returned (.agg (bvA (expS K s ns))) ∧ Below w.heap.size w w' := by
  have HK := Lib.hid hK
  have HR := Lib.hid hr
  have HPL : Hid ((purpS s ns).length ≤ 200000) := Lib.hid (by have := purpS_len s ns; omega)
  have HEN := Lib.hid (fun W h => purpose_any s a cap ns W hs h hl hI)
  have HL := Lib.hid (expS_len K s ns)
  have HX0 : Hid (expS K s ns = tagS tagDerive (K ++ purpS s ns)) := Lib.hid rfl
  generalize expS K s ns = X at *
  obtain ⟨P, hP⟩ : ∃ P, purpS s ns = P := ⟨_, rfl⟩
  rw [hP] at HPL HX0
  have HPE := Lib.hid hP
  have HM1 := Lib.hid (R2.start w K)
  have HO2 : Hid (OwnB (w.heap.size + 2) (((w.alloc (.cells (bvA K) 23)).alloc (.cells (bvA (List.replicate 32 0)) 23)).alloc (.cells #[] 5)) (.slice (some ⟨w.heap.size + 1 + 1, 0, none⟩) 0 0) []) := Lib.hid (OwnB.empty1 _ (by simp) (by simp))
  have HM2 : Hid (R2 w K (((w.alloc (.cells (bvA K) 23)).alloc (.cells (bvA (List.replicate 32 0)) 23)).alloc (.cells #[] 5))) := Lib.hid (HM1.out.call ((Below.refl _ _).alloc (Nat.le_refl _) _) HM1.out.size)
  clear hK hr hI hP HM1
  go_enter Tryz.func62, Tryz.ntmps62
  go_wp2_with ((with_reducible show wpList _ _ _ (({ dst := some 9, op := _, type := _, pos := _, after := _, guard := _ } : Oper) :: _) _ _); go_must (refine wpList_appB rfl (.tmp 7) (.tmp 8) rfl (w.heap.size + 2) _ [] K (some ⟨w.heap.size, 0, none⟩) 32 rfl HO2.out (by rw [HK.out]; rfl) (HM2.out.key.rdBm HK.out) (fun h => by cases h) (by rw [HK.out]; decide) HM2.out.size ?_))
  intro v3 w3 ho3 hg3
  have HO3 : Hid (OwnB (w.heap.size + 2) w3 v3 K) := Lib.hid ho3
  have HM3 := Lib.hid (HM2.out.call (hg3.below (fun k hk => HO2.out.base k hk) HM2.out.size) (Nat.le_refl _))
  clear ho3 hg3 HO2 HM2
  go_wp2_with (go_at_call 85; refine (HEN.out w3 ((HR.out.below HM3.out.below).mono HM3.out.below.size)).mono ?_; rintro e w4 ⟨v4, rfl, ho4, hb4⟩; refine Hid.out ?_)
  refine Lib.hid ?_
  rw [HPE.out] at ho4
  have HO4 := Lib.hid (HO3.out.below hb4)
  have HM4 := Lib.hid (HM3.out.call hb4 HM3.out.size)
  obtain ⟨a4, cap4, rfl, hc4, hr4⟩ := ho4.form
  have HP4 := Lib.hid ho4
  have HN4 : Hid (a4 = none → cap4 = 0) := Lib.hid (by
    rcases hc4 with ⟨_, e, _⟩ | ⟨g, e, _⟩
    · exact fun _ => e
    · intro e2; rw [e] at e2; cases e2)
  clear ho4 hb4 hc4 hr4 HO3 HM3
  go_wp2_with ((with_reducible show wpList _ _ _ (({ dst := some 13, op := _, type := _, pos := _, after := _, guard := _ } : Oper) :: _) _ _); go_must (refine wpList_appB rfl (.tmp 9) (.tmp 12) rfl (w.heap.size + 2) _ K P a4 cap4 rfl HO4.out rfl HP4.out.rd HN4.out (by rw [HK.out]; have := HPL.out; omega) HM4.out.size ?_))
  intro v5 w5 ho5 hg5
  obtain ⟨a5, cap5, rfl, _, _⟩ := ho5.form
  have HO5 := Lib.hid ho5
  have HM5 := Lib.hid (HM4.out.call (hg5.below (fun k hk => HO4.out.base k hk) HM4.out.size) (Nat.le_refl _))
  have HN5 : Hid (a5 = none → cap5 = 0) := Lib.hid (by
    obtain ⟨a', c', e, hc, _⟩ := ho5.form
    cases e
    rcases hc with ⟨_, e, _⟩ | ⟨g, e, _⟩
    · exact fun _ => e
    · intro e2; rw [e] at e2; cases e2)
  have hc := refTagged ⟨#[100, 101, 114, 105, 118, 101]⟩ a5 cap5 (K ++ P) w5 ho5.rd ho5.caps.1 ho5.caps.2 HN5.out (by decide) (by rw [List.length_append, HK.out]; have := HPL.out; omega)
  rw [show tagS (ByteArray.mk #[100, 101, 114, 105, 118, 101]).data.toList (K ++ P) = X from HX0.out.symm] at hc
  have HC := Lib.hid hc
  clear ho5 hg5 HO4 HM4 HP4 HN4 hc HO5 HN5
  generalize (K ++ P).length = kp at *
  go_wp2_with (go_at_call 66; refine HC.out.mono ?_; rintro e w6 ⟨rfl, hb6⟩; refine Hid.out ?_)
  refine Lib.hid ?_
  have HM6 := Lib.hid (HM5.out.call hb6 HM5.out.size)
  clear hb6 HM5 HC
  go_wp2_with (refine wpList_storeA rfl 23 (.tmp 6) (.tmp 14) rfl (w.heap.size + 1) (bvA X) rfl rfl 23 _ HM6.out.out (key_sz _ HL.out) (key_old _ HL.out) (bvA_one _) ?_)
  intro w9 h9 hg9
  have hB9 := grown_below HM6.out.below hg9 (Nat.le_succ _) HM6.out.below.size
  go_wp2_with fail
  refine bodyPost_ret (v := .agg (bvA X)) ?_ rfl ⟨rfl, hB9⟩
  exact results_cell_row rfl _ _ (w.heap.size + 1) 23 _ (0, 0) _ rfl h9 key_und rfl (key_sz _ HL.out)
end Go.Proofs.YteigldfdaciopaaGreatDoor
