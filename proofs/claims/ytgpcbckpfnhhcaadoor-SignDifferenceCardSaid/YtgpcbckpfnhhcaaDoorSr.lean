/-
  The reference of sign: bytes of a number, challenges; the statements' challenge.
-/
import Derived.Test.YtgpcbckpfnhhcaaDoorSn
import Derived.Test.YtgpcbckpfnhhcaaDoorSp
import Derived.Test.YtgpcbckpfnhhcaaDoorGv
namespace Go.Proofs.YtgpcbckpfnhhcaaDoor
open Go.RowKit
set_option linter.unusedVariables false
set_option linter.unusedSimpArgs false

set_option maxRecDepth 100000 in
set_option maxHeartbeats 400000 in
theorem lchal (pub r : Int) (a : Option Addr) (cap : Nat) (l : List UInt8) (w : World) (hT : Tab w) (hl : RdB w.heap.size w a l) (hcap : l.length ≤ cap) (hc2 : cap ≤ maxLen) (hnil : a = none → cap = 0) (hn : l.length ≤ 70368744100000) :
    Calls Tryd.prog 22 #[.int .i64 pub, .int .i64 r, .slice a l.length cap] w fun e w' => e = .returned (.int .i64 (chalS pub r l : Nat)) ∧ Below w.heap.size w w' := by
  have HL := Lib.hid hl
  have HNIL := Lib.hid hnil
  have HT := Lib.hid hT
  clear hl hnil hT
  have HNB := Lib.hid number_any
  obtain ⟨sc, hsc⟩ : ∃ sc, chalS pub r l = sc := ⟨_, rfl⟩
  have HSC : Hid (scalS (tagS (ByteArray.mk #[115, 105, 103, 110]).data.toList ((be8 r ++ be8 pub) ++ l)) = sc) := Lib.hid (by rw [← hsc]; unfold chalS tagSign; simp only [List.toList_toArray, List.append_assoc])
  have HLL : Hid (((be8 r ++ be8 pub) ++ l).length = 16 + l.length) := Lib.hid (by rw [List.length_append, List.length_append, be8_len, be8_len])
  have HL1 : Hid ((be8 r).length + (be8 pub).length ≤ 140737488355328) := by show _ ≤ _; rw [be8_len, be8_len]; omega
  have HL2 : Hid ((be8 r ++ be8 pub).length + l.length ≤ 140737488355328) := by show _ ≤ _; rw [List.length_append, be8_len, be8_len]; omega
  rw [hsc]
  clear hsc
  obtain ⟨X2, hX2⟩ : ∃ X, X = be8 r ++ be8 pub := ⟨_, rfl⟩
  rw [← hX2] at HL2 HLL HSC
  have HX2 := Lib.hid hX2
  clear hX2
  obtain ⟨X3, hX3⟩ : ∃ X, X = X2 ++ l := ⟨_, rfl⟩
  rw [← hX3] at HLL HSC
  have HX3 := Lib.hid hX3
  clear hX3
  obtain ⟨q, hq⟩ : ∃ q, l.length = q := ⟨_, rfl⟩
  have HQ := Lib.hid hq
  rw [hq] at hn hcap ⊢
  clear hq
  have HB0 := Lib.hid (Below.refl w.heap.size w)
  go_enter Tryd.func22, Tryd.ntmps22
  go_wp2_with (first
    | (go_at_call 29; with_reducible refine (HNB.out r _).mono ?_; rintro e w1 ⟨v1, rfl, ho1, hb1⟩; obtain ⟨a1, cap1, rfl, _, _⟩ := ho1.form; have HO1 := Lib.hid ho1; have HB1 := Lib.hid hb1; clear ho1 hb1)
    | (go_at_call 29; with_reducible refine (HNB.out pub _).mono ?_; rintro e w2 ⟨v2, rfl, ho2, hb2⟩; obtain ⟨a2, cap2, rfl, _, _⟩ := ho2.form; have HO1b := Lib.hid (HO1.out.below hb2); have HB2 := Lib.hid (HB1.out.trans (hb2.mono HB1.out.size)); have HO2 := Lib.hid ho2; clear ho2 hb2 HO1 HB1)
    | ((with_reducible show wpList _ _ _ (({ dst := some 11, op := _, type := _, pos := _, after := _, guard := _ } : Oper) :: _) _ _); go_must (refine wpList_appB rfl (.tmp 8) (.tmp 10) rfl w.heap.size _ (be8 r) (be8 pub) a2 cap2 rfl HO1b.out rfl HO2.out.rdOf HO2.out.nilCap HL1.out HB2.out.size ?_)))
  intro v4 w4 ho4 hg4
  rw [← HX2.out] at ho4
  obtain ⟨a4, cap4, rfl, _, _⟩ := ho4.form
  have HO4 := Lib.hid ho4
  have HB4 := Lib.hid (HB2.out.trans (hg4.below (fun k hk => HO1b.out.base k hk) HB2.out.size))
  clear ho4 hg4 HO1b HO2 HB2
  have HR : Hid (RdB w4.heap.size w4 a l) := Lib.hid ((HL.out.below HB4.out).mono HB4.out.size)
  have HS4 : Hid (w.heap.size ≤ w4.heap.size) := HB4.out.size
  go_wp2_with ((with_reducible show wpList _ _ _ (({ dst := some 13, op := _, type := _, pos := _, after := _, guard := _ } : Oper) :: _) _ _); go_must (refine wpList_appB rfl (.tmp 11) (.tmp 12) rfl w.heap.size _ X2 l a cap rfl HO4.out (by rw [HQ.out]; rfl) HR.out HNIL.out HL2.out HS4.out ?_))
  intro v6 w6 ho6 hg6
  rw [← HX3.out] at ho6
  have HB := Lib.hid (HB4.out.trans (hg6.below (fun k hk => HO4.out.base k hk) HB4.out.size))
  obtain ⟨a6, cap6, rfl, _, _⟩ := ho6.form
  have HW6 := Lib.hid ho6
  clear ho6 hg6 HO4 HB4 HR HS4
  have cS := gScalar (ByteArray.mk #[115, 105, 103, 110]) a6 cap6 X3 w6 (HT.out.below HB.out HT.out.lt) HW6.out.rdOf HW6.out.caps.1 HW6.out.caps.2 (by decide) (by rw [HLL.out, HQ.out]; omega)
  rw [HSC.out] at cS
  have HCS := Lib.hid cS
  clear cS
  generalize X3.length = ml at *
  go_wp2_with (go_at_call 28; refine HCS.out.mono ?_; rintro e w7 ⟨rfl, hb7⟩)
  go_ret
  exact ⟨rfl, HB.out.trans (hb7.mono HB.out.size)⟩

set_option maxRecDepth 100000 in
set_option maxHeartbeats 400000 in
theorem rchal (pub r : Int) (a : Option Addr) (cap : Nat) (l : List UInt8) (w : World) (hl : RdB w.heap.size w a l) (hcap : l.length ≤ cap) (hc2 : cap ≤ maxLen) (hnil : a = none → cap = 0) (hn : l.length ≤ 70368744100000) :
    Calls Tryd.prog 38 #[.int .i64 pub, .int .i64 r, .slice a l.length cap] w fun e w' => e = .returned (.int .i64 (chalS pub r l : Nat)) ∧ Below w.heap.size w w' := by
  have HL := Lib.hid hl
  have HNIL := Lib.hid hnil

  clear hl hnil
  have HNB := Lib.hid refBytes
  obtain ⟨sc, hsc⟩ : ∃ sc, chalS pub r l = sc := ⟨_, rfl⟩
  have HSC : Hid (scalS (tagS (ByteArray.mk #[115, 105, 103, 110]).data.toList ((be8 r ++ be8 pub) ++ l)) = sc) := Lib.hid (by rw [← hsc]; unfold chalS tagSign; simp only [List.toList_toArray, List.append_assoc])
  have HLL : Hid (((be8 r ++ be8 pub) ++ l).length = 16 + l.length) := Lib.hid (by rw [List.length_append, List.length_append, be8_len, be8_len])
  have HL1 : Hid ((be8 r).length + (be8 pub).length ≤ 140737488355328) := by show _ ≤ _; rw [be8_len, be8_len]; omega
  have HL2 : Hid ((be8 r ++ be8 pub).length + l.length ≤ 140737488355328) := by show _ ≤ _; rw [List.length_append, be8_len, be8_len]; omega
  rw [hsc]
  clear hsc
  obtain ⟨X2, hX2⟩ : ∃ X, X = be8 r ++ be8 pub := ⟨_, rfl⟩
  rw [← hX2] at HL2 HLL HSC
  have HX2 := Lib.hid hX2
  clear hX2
  obtain ⟨X3, hX3⟩ : ∃ X, X = X2 ++ l := ⟨_, rfl⟩
  rw [← hX3] at HLL HSC
  have HX3 := Lib.hid hX3
  clear hX3
  obtain ⟨q, hq⟩ : ∃ q, l.length = q := ⟨_, rfl⟩
  have HQ := Lib.hid hq
  rw [hq] at hn hcap ⊢
  clear hq
  have HB0 := Lib.hid (Below.refl w.heap.size w)
  go_enter Tryd.func38, Tryd.ntmps38
  go_wp2_with (first
    | (go_at_call 36; with_reducible refine (HNB.out r _).mono ?_; rintro e w1 ⟨v1, rfl, ho1, hb1⟩; obtain ⟨a1, cap1, rfl, _, _⟩ := ho1.form; have HO1 := Lib.hid ho1; have HB1 := Lib.hid hb1; clear ho1 hb1)
    | (go_at_call 36; with_reducible refine (HNB.out pub _).mono ?_; rintro e w2 ⟨v2, rfl, ho2, hb2⟩; obtain ⟨a2, cap2, rfl, _, _⟩ := ho2.form; have HO1b := Lib.hid (HO1.out.below hb2); have HB2 := Lib.hid (HB1.out.trans (hb2.mono HB1.out.size)); have HO2 := Lib.hid ho2; clear ho2 hb2 HO1 HB1)
    | ((with_reducible show wpList _ _ _ (({ dst := some 11, op := _, type := _, pos := _, after := _, guard := _ } : Oper) :: _) _ _); go_must (refine wpList_appB rfl (.tmp 8) (.tmp 10) rfl w.heap.size _ (be8 r) (be8 pub) a2 cap2 rfl HO1b.out rfl HO2.out.rdOf HO2.out.nilCap HL1.out HB2.out.size ?_)))
  intro v4 w4 ho4 hg4
  rw [← HX2.out] at ho4
  obtain ⟨a4, cap4, rfl, _, _⟩ := ho4.form
  have HO4 := Lib.hid ho4
  have HB4 := Lib.hid (HB2.out.trans (hg4.below (fun k hk => HO1b.out.base k hk) HB2.out.size))
  clear ho4 hg4 HO1b HO2 HB2
  have HR : Hid (RdB w4.heap.size w4 a l) := Lib.hid ((HL.out.below HB4.out).mono HB4.out.size)
  have HS4 : Hid (w.heap.size ≤ w4.heap.size) := HB4.out.size
  go_wp2_with ((with_reducible show wpList _ _ _ (({ dst := some 13, op := _, type := _, pos := _, after := _, guard := _ } : Oper) :: _) _ _); go_must (refine wpList_appB rfl (.tmp 11) (.tmp 12) rfl w.heap.size _ X2 l a cap rfl HO4.out (by rw [HQ.out]; rfl) HR.out HNIL.out HL2.out HS4.out ?_))
  intro v6 w6 ho6 hg6
  rw [← HX3.out] at ho6
  have HB := Lib.hid (HB4.out.trans (hg6.below (fun k hk => HO4.out.base k hk) HB4.out.size))
  obtain ⟨a6, cap6, rfl, _, _⟩ := ho6.form
  have HW6 := Lib.hid ho6
  clear ho6 hg6 HO4 HB4 HR HS4
  have cS := hScalar (ByteArray.mk #[115, 105, 103, 110]) a6 cap6 X3 w6 HW6.out.rdOf HW6.out.caps.1 HW6.out.caps.2 HW6.out.nilCap (by decide) (by rw [HLL.out, HQ.out]; omega)
  rw [HSC.out] at cS
  have HCS := Lib.hid cS
  clear cS
  generalize X3.length = ml at *
  go_wp2_with (go_at_call 35; refine HCS.out.mono ?_; rintro e w7 ⟨rfl, hb7⟩)
  go_ret
  exact ⟨rfl, HB.out.trans (hb7.mono HB.out.size)⟩
end Go.Proofs.YtgpcbckpfnhhcaaDoor
