/-
  The reference's Tagged.
-/
import Derived.Test.YtmeoicfeiamkmaaDoorRsm
namespace Go.Proofs.YtmeoicfeiamkmaaDoor
open Go.RowKit
set_option linter.unusedVariables false
set_option linter.unusedSimpArgs false

theorem OwnB.nilCap {B : Nat} {w : World} {a : Option Addr} {n cap : Nat} {l : List UInt8} (h : OwnB B w (.slice a n cap) l) : a = none → cap = 0 := by
  obtain ⟨a', cap', e, hf, _⟩ := h.form
  injection e with e1 e2 e3
  subst e1; subst e3
  intro h0
  rcases hf with ⟨_, h1, _⟩ | ⟨g, h1, _⟩
  · exact h1
  · rw [h1] at h0; cases h0

set_option maxRecDepth 100000 in
set_option maxHeartbeats 3200000 in
theorem refTagged (s : ByteArray) (a : Option Addr) (cap : Nat) (l : List UInt8) (w : World) (hl : RdB w.heap.size w a l) (hcap : l.length ≤ cap) (hc2 : cap ≤ maxLen) (hnil : a = none → cap = 0) (hs : s.size ≤ 600) (hn : l.length ≤ 70368744177000) :
    Calls Tryd.prog 18 #[.string s, .slice a l.length cap] w fun e w' => e = .returned (.agg (bvA (tagS s.data.toList l))) ∧ Below w.heap.size w w' := by
  have HL := Lib.hid hl
  have HN := Lib.hid hnil
  have HC2 := Lib.hid hc2
  clear hl hnil
  unfold maxLen at hc2
  have hcv := fun W : World => Lib.run_convert_string_bytes (P := Tryd.prog) W 9 22 5 s Tryd.underlying9 Tryd.underlying22 Tryd.underlying5
  go_enter Tryd.func18, Tryd.ntmps18
  go_wp2_with fail
  obtain ⟨w0, hw0⟩ : ∃ w0, w0 = w.alloc (.cells (bvA (List.replicate 32 0)) 29) := ⟨_, rfl⟩
  have hB0 : Below w.heap.size w w0 := hw0 ▸ (Below.refl _ _).alloc (Nat.le_refl _) _
  have hO0 : BB w0 w.heap.size 29 (List.replicate 32 0) := hw0 ▸ BB.new w _ _
  have hz0 : w0.heap.size = w.heap.size + 1 := by rw [hw0]; simp
  have HB0 := Lib.hid hB0
  have HO0 := Lib.hid hO0
  change Calls _ _ #[.slice (some ⟨w.heap.size + 1, 0, none⟩) s.data.toList.length (grownCap (w.alloc (.cells (bvA (List.replicate 32 0)) 29)) s.size 0 5)] (Lib.bytesWorld (w.alloc (.cells (bvA (List.replicate 32 0)) 29)) 5 s) _
  rw [← hw0, ← hz0]
  clear hw0 hB0 hO0
  have hB1 := HB0.out.trans ((below_bytesWorld w0 5 s).mono HB0.out.size)
  have HO1 := Lib.hid (HO0.out.below (below_bytesWorld w0 5 s) HO0.out.lt)
  have hSl : s.data.toList.length ≤ 70368744177664 := by show s.size ≤ _; omega
  refine (refSum (some ⟨w0.heap.size, 0, none⟩) (grownCap w0 s.size 0 5) s.data.toList (Lib.bytesWorld w0 5 s) (rd_bytesWorld w0 5 s (by unfold maxLen; omega)) (grownCap_ge w0 s.size 0 _) (grownCap_le_maxLen w0 s.size 0 _ (by unfold maxLen; omega)) (fun h => by cases h) hSl).mono ?_
  rintro e w2 ⟨rfl, hb2⟩
  have HB2 := Lib.hid (hB1.trans (hb2.mono hB1.size))
  have HO2 := Lib.hid (HO1.out.below hb2 HO1.out.lt)
  clear hB1 hb2 hcv hSl HO1 HO0 HB0
  go_wp2_with (refine wpList_storeA rfl 29 (.tmp 5) (.tmp 8) rfl w2.heap.size (bvA (sha s.data.toList)) rfl rfl 29 (bvA (List.replicate 32 0)) (heap_alloc_new w2 _) (sha_sz _) (sha_old _) (bvA_one _) ?_)
  intro w3 h3 hg3
  have hB3 : Below w2.heap.size w2 w3 := grown_below ((Below.refl _ _).alloc (Nat.le_refl _) _) hg3 (Nat.le_refl _) (by simp)
  have HD3 := Lib.hid (show BB w3 w2.heap.size 29 (sha s.data.toList) from h3)
  have HB3 := Lib.hid (HB2.out.trans (hB3.mono HB2.out.size))
  have HO3 := Lib.hid (HO2.out.below hB3 HO2.out.lt)
  have hgt : w.heap.size < w2.heap.size := HO2.out.lt
  clear h3 hg3 hB3 HB2 HO2
  obtain ⟨ST, hST⟩ : ∃ ST, ST = sha s.data.toList := ⟨_, rfl⟩
  have hTG : tagS s.data.toList l = sha (ST ++ l) := by rw [hST]; rfl
  have hST32 : ST.length = 32 := by rw [hST]; exact sha_len _
  rw [← hST] at HD3
  have HTG := Lib.hid hTG
  have HST := Lib.hid hST32
  clear hST hTG hST32
  -- the bytes in a row: a new slice, twice appended to
  have hA4 : Below w3.heap.size w3 (w3.alloc (.cells #[] 5)) := (Below.refl _ _).alloc (Nat.le_refl _) _
  have HE4 : Hid (OwnB w3.heap.size (w3.alloc (.cells #[] 5)) (.slice (some ⟨w3.heap.size, 0, none⟩) 0 0) []) := OwnB.empty (Nat.le_refl _)
  have HD4 := Lib.hid (HD3.out.below hA4 HD3.out.lt)
  have HO4 := Lib.hid (HO3.out.below hA4 HO3.out.lt)
  have HR4 : Hid (RdB (w3.alloc (.cells #[] 5)).heap.size (w3.alloc (.cells #[] 5)) (some ⟨w2.heap.size, 0, none⟩) ST) := HD4.out.rdB (by rw [HST.out]; unfold maxLen; omega)
  have HLN : Hid (([] : List UInt8).length + ST.length ≤ 140737488355328) := by show _ ≤ _; rw [HST.out]; simp
  have HSZ4 : Hid (w3.heap.size ≤ (w3.alloc (.cells #[] 5)).heap.size) := hA4.size
  have HLT3 := Lib.hid HO3.out.lt
  have HA4 := Lib.hid hA4
  clear hA4
  go_wp2_with ((with_reducible show wpList _ _ _ (({ dst := some 11, op := _, type := _, pos := _, after := _, guard := _ } : Oper) :: _) _ _); go_must (refine wpList_appB rfl (.tmp 9) (.tmp 10) rfl w3.heap.size _ [] ST (some ⟨w2.heap.size, 0, none⟩) 32 rfl HE4.out (by rw [HST.out]; rfl) HR4.out (fun h => by cases h) HLN.out HSZ4.out ?_))
  intro v5 w5 ho5 hg5
  have HB5 := Lib.hid (((HB3.out.alloc HB3.out.size _)).trans (hg5.below (empty_base HB3.out.size) (HB3.out.alloc HB3.out.size _).size))
  have HO5 := Lib.hid (BB.grownBy HO4.out hg5.grown (fun e => by have := HLT3.out; simp [Value.ownBlock] at e; omega))
  have HW5 : Hid (OwnB w3.heap.size w5 v5 ST) := ho5
  have HS5 : Hid (w3.heap.size ≤ w5.heap.size) := Nat.le_trans HSZ4.out hg5.size
  clear ho5 hg5 HE4 HD4 HO4 HR4 HLN HSZ4 HA4 HD3 HO3
  have HR5 : Hid (RdB w5.heap.size w5 a l) := (HL.out.below HB5.out).mono HB5.out.size
  have HLN5 : Hid (ST.length + l.length ≤ 140737488355328) := by show _ ≤ _; rw [HST.out]; omega
  go_wp2_with ((with_reducible show wpList _ _ _ (({ dst := some 13, op := _, type := _, pos := _, after := _, guard := _ } : Oper) :: _) _ _); go_must (refine wpList_appB rfl (.tmp 11) (.tmp 12) rfl w3.heap.size _ ST l a cap rfl HW5.out rfl HR5.out HN.out HLN5.out HS5.out ?_))
  intro v6 w6 ho6 hg6
  have HB6 := Lib.hid (HB5.out.trans (hg6.below (fun k hk => Nat.le_trans (Nat.le_trans (HB3.out.size) (Nat.le_refl _)) (HW5.out.base k hk)) HB5.out.size))
  have HO6 := Lib.hid (BB.grownBy HO5.out hg6.grown (fun e => by have h1 := HLT3.out; have h2 := HW5.out.base _ e; omega))
  obtain ⟨a6, cap6, rfl, _, _⟩ := ho6.form
  have HW6 := Lib.hid ho6
  clear ho6 hg6 HW5 HO5 HB5 HR5 HLN5 HS5
  have hSl : (ST ++ l).length ≤ 70368744177664 := by rw [List.length_append, HST.out]; omega
  have cS := refSum a6 cap6 (ST ++ l) w6 (HW6.out.rdOf) HW6.out.caps.1 HW6.out.caps.2 HW6.out.nilCap hSl
  rw [← HTG.out] at cS
  obtain ⟨TG, hTG⟩ : ∃ TG, TG = tagS s.data.toList l := ⟨_, rfl⟩
  have hT32 : TG.length = 32 := by rw [hTG]; exact tagS_len _ _
  rw [← hTG] at cS
  have HTL := Lib.hid hTG
  have HCS := Lib.hid cS
  have hsz : (Tryd.prog.info? 29).map (·.size) = some (bvA TG).size := by rw [bvA_size, hT32]; exact sha_size
  have hold : (bvA (List.replicate 32 0)).size = (bvA TG).size := by rw [bvA_size, bvA_size, hT32]; rfl
  have HSZT := Lib.hid hsz
  have HOLDT := Lib.hid hold
  clear hTG hT32 cS hSl hsz hold
  generalize (ST ++ l).length = ml at *
  go_wp2_with fail
  refine HCS.out.mono ?_
  rintro e w7 ⟨rfl, hb7⟩
  have HB7 := Lib.hid (HB6.out.trans (hb7.mono HB6.out.size))
  have HO7 := Lib.hid (HO6.out.below hb7 HO6.out.lt)
  clear hb7 HB6 HO6 HCS HW6
  go_wp2_with (refine wpList_storeA rfl 29 (.tmp 4) (.tmp 14) rfl w.heap.size (bvA TG) rfl rfl 29 (bvA (List.replicate 32 0)) HO7.out HSZT.out HOLDT.out (bvA_one _) ?_)
  intro w8 h8 hg8
  go_wp2_with fail
  rw [← HTL.out]
  refine bodyPost_ret (v := .agg (bvA TG)) ?_ rfl ⟨rfl, grown_below HB7.out hg8 (Nat.le_refl _) HB7.out.size⟩
  exact results_cell_row rfl _ _ w.heap.size 29 _ (0, 0) _ rfl h8 Tryd.underlying29 rfl HSZT.out
end Go.Proofs.YtmeoicfeiamkmaaDoor
