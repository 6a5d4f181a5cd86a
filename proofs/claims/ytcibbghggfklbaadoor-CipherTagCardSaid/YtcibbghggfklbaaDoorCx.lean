/-
  The chapter's examples (sane of chartroomlaw06).
-/
import Derived.Test.YtcibbghggfklbaaDoorCp
import Derived.Lib.SmallJoins
namespace Go.Proofs.YtcibbghggfklbaaDoor
open Go.RowKit
set_option linter.unusedVariables false
set_option linter.unusedSimpArgs false

theorem RdV.const (w : World) (l : List UInt8) (hl : l.length ≤ 1000) : RdV (w.alloc (.cells (bvA l) 5 (l.length, l.length + 1))) (.slice (some ⟨w.heap.size, 0, none⟩) l.length l.length) l := by
  refine ⟨_, _, rfl, ⟨by unfold maxLen; omega, .inr ⟨w.heap.size, 0, rfl, by rw [alloc_size]; omega, fun j hj => ?_⟩⟩, Nat.le_refl _, by unfold maxLen; omega, fun e => by cases e⟩
  rw [Nat.zero_add, World.cell?_alloc_mark, bvA_get l j hj]
/-- make([]byte, n), at a step of a drawn region. -/
theorem wp_makeB {o : Oper} {a : Act} {w : World} {K : Act → World → Prop} {Q : Exit → Act → World → Prop} {x y : Operand} (ho : o.op = .makeSlice 28 x y) (n : Nat) (hn : n ≤ 140737488355328) (hx : a.eval x = .int .i64 (n : Int)) (hy : a.eval y = .int .i64 (n : Int))
    (h : ∀ w' g, RdV w' (.slice (some ⟨g, 0, none⟩) n n) (List.replicate n 0) → w.heap.size ≤ g → Below w.heap.size w w' → K (a.put o.dst (.slice (some ⟨g, 0, none⟩) n n)) w') : o.wp Tryd.prog a w K Q := by
  have hr := run_makeZ n hn w
  have ho2 := (OwnB.zeros (B := w.heap.size) (w := w) n hn (Nat.le_refl _)).rdv
  unfold Oper.wp execOp
  simp only [ho, Sem.run_bind, Sem.run_pure, Result.andThen_ok, hx, hy, hr]
  exact h _ _ ho2 (Nat.le_refl _) ((Below.refl _ _).alloc (Nat.le_refl _) _)

/-- The key 0, 1 .. 31, when m bytes stand. -/
def keyTo (m : Nat) : List UInt8 := (List.range 32).map fun i => if i < m then UInt8.ofNat i else 0
theorem keyTo_len (m : Nat) : (keyTo m).length = 32 := by simp [keyTo]
theorem keyTo_set (m : Nat) (h : m < 32) : (keyTo m).set m (UInt8.ofNat m) = keyTo (m + 1) := by
  apply List.ext_getElem
  · simp [keyTo]
  · intro i h1 h2
    rw [List.getElem_set]
    simp only [keyTo, List.getElem_map, List.getElem_range]
    by_cases e : m = i
    · subst e; rw [if_pos rfl, if_pos (by omega)]
    · rw [if_neg e]
      by_cases h : i < m
      · rw [if_pos h, if_pos (by omega)]
      · rw [if_neg h, if_neg (by omega)]
def exK : List UInt8 := (List.range 32).map UInt8.ofNat
theorem keyTo_full : keyTo 32 = exK := by decide +kernel
theorem exK_len : exK.length = 32 := by decide +kernel
def exN : List UInt8 := [0, 0, 0, 9, 0, 0, 0, 0x4a, 0, 0, 0, 0]
def exZ : List UInt8 := List.replicate 12 0
def exH : List UInt8 := [104, 101, 97, 100]
def exB : List UInt8 := [98, 111, 100, 121]

set_option maxRecDepth 100000 in
set_option maxHeartbeats 2000000 in
theorem csane6_any (w : World) (hT : Tab w) : Calls Tryd.prog 11 #[] w fun e w' => e = .returned (.bool true) ∧ Below w.heap.size w w' := by
  have HT := Lib.hid hT
  obtain ⟨Z, hZ⟩ : ∃ Z, Z = bvA (List.replicate 32 0) := ⟨_, rfl⟩
  have hz := fun W : World => (by rw [hZ]; kernel_rfl : (zeroValue 23).run Tryd.prog W = .ok (.agg Z) W)
  have HI0 : Hid (Below w.heap.size w (w.alloc (.cells Z 23)) ∧ BB (w.alloc (.cells Z 23)) w.heap.size 23 (keyTo 0)) := Lib.hid ⟨(Below.refl _ _).alloc (Nat.le_refl _) _, by rw [hZ]; exact BB.new w _ _⟩
  clear hT hZ
  go_enter Tryd.func11, Tryd.ntmps11
  go_wp2_with fail
  go_loopw [15] (fun i wr => ∃ m : Nat, m ≤ 32 ∧ i = .int .i64 m ∧ Below w.heap.size w wr ∧ BB wr w.heap.size 23 (keyTo m)) (fun i _ => 32 - (intOf i).toNat)
  case atStart => exact ⟨0, by omega, rfl, HI0.out⟩
  case round =>
    clear HI0
    obtain ⟨m, hm, rfl, hb, hk⟩ := hrel
    have HB := Lib.hid hb
    have HK := Lib.hid hk
    clear hb hk
    by_cases hlt : m < 32
    · have im : (m : Int) < 32 := by omega
      have ck := HK.out.cell m (by rw [keyTo_len]; exact hlt)
      have fk := HK.out.frozen m
      have HX := Lib.hid (keyTo_set m hlt)
      generalize (keyTo m)[m]'(by rw [keyTo_len]; exact hlt) = z at ck
      go_wp2_with fail
      go_roundw
      case rel =>
        refine ⟨m + 1, by omega, by go_num, HB.out.setCell (Nat.le_refl _) _, ?_⟩
        rw [← HX.out, ← bv_ofNat m (by omega)]
        exact HK.out.set_ _ _
      case measure => simp [intOf]; omega
    · obtain rfl : m = 32 := by omega
      rw [keyTo_full] at HK
      have HSK := Lib.hid (key_size exK exK_len)
      clear hlt hm
      have e1 : blockX exK exN 1 = cblock exK exN 1 := by unfold blockX; rw [if_pos (by decide)]; rfl
      have e2 : blockE 1 = 0 := by unfold blockE; rw [if_pos (by decide)]
      have e3 : blockX exK exZ (-1) = [] := by unfold blockX; rw [if_neg (by decide)]
      have e4 : blockE (-1) = 1 := by unfold blockE; rw [if_neg (by decide)]
      have e5 : streamX exK exZ [] = [] := rfl
      have e6 : streamE [] = 0 := rfl
      have h15 : opensC exK exZ [] (List.replicate 15 0) = false := by unfold opensC; rw [decide_eq_false (by decide), Bool.false_and]
      have e7 : openX exK exZ [] (List.replicate 15 0) = [] := by unfold openX; rw [h15]; rfl
      have e8 : openE exK exZ [] (List.replicate 15 0) = 60 := by unfold openE; rw [h15]; rfl
      have e9 : sealX exK exZ exH exB = sealC exK exZ exH exB := by unfold sealX; rw [if_pos (by decide)]
      have e10 : streamE exB = 0 := by unfold streamE; rw [if_pos (by decide)]
      have e11 : openX exK exZ exH (sealC exK exZ exH exB) = exB := by unfold openX; rw [if_pos (opens_seal _ _ _ _ (by decide)), open_seal]
      have e12 : openE exK exZ exH (sealC exK exZ exH exB) = 0 := by unfold openE; rw [if_pos (opens_seal _ _ _ _ (by decide))]
      have hx0 : (cblock exK exN 1).take 4 = [0x10, 0xf1, 0xe7, 0xe4] := cblock_example
      have hx1 : (cblock exK exN 1).length = 64 := cblock_len _ _ _
      have hs0 : (sealC exK exZ exH exB).length = 20 := by rw [sealC_len]; decide
      go_wp2_with (refine wpList_load_row rfl 23 (.tmp 1) rfl w.heap.size rfl _ (bvA exK) (0, 0) _ HK.out Tryd.underlying23 rfl HSK.out ?_)
      refine (Block_any exK exN exK_len (by decide) 1 wr).mono ?_
      rw [e1, e2]
      rintro e w1 hA
      obtain ⟨a1, c1, rfl, hr1, hb1⟩ := hA.open
      rw [hx1] at hr1 ⊢
      generalize cblock exK exN 1 = X1 at *
      have HR1 := Lib.hid hr1
      have HB1 := Lib.hid (HB.out.trans (hb1.mono HB.out.size))
      have HK1 := Lib.hid (HK.out.below hb1 HK.out.lt)
      have HX0 := Lib.hid hx0
      have HX1 := Lib.hid hx1
      clear hA hr1 hb1 HB HK hx0 hx1 e1 e2
      go_wp2_with (refine wpList_load_row rfl 23 (.tmp 1) rfl w.heap.size rfl _ (bvA exK) (0, 0) _ HK1.out Tryd.underlying23 rfl HSK.out ?_)
      refine (Block_any exK exZ exK_len (by decide) (-1) w1).mono ?_
      rw [e3, e4]
      rintro e w2 hA
      obtain ⟨a2, c2, rfl, -, hb2⟩ := hA.open
      have HR2 := Lib.hid (HR1.out.call hb2)
      have HB2 := Lib.hid (HB1.out.trans (hb2.mono HB1.out.size))
      have HK2 := Lib.hid (HK1.out.below hb2 HK1.out.lt)
      clear hA hb2 HB1 HK1 HR1 e3 e4
      go_wp2_with (refine wpList_load_row rfl 23 (.tmp 1) rfl w.heap.size rfl _ (bvA exK) (0, 0) _ HK2.out Tryd.underlying23 rfl HSK.out ?_)
      refine (Stream_any exK exZ exK_len (by decide) [] none 0 0 w2 (RdV.nil w2)).mono ?_
      rw [e5, e6]
      rintro e w3 hA
      obtain ⟨a3, c3, rfl, -, hb3⟩ := hA.open
      have HR3 := Lib.hid (HR2.out.call hb3)
      have HB3 := Lib.hid (HB2.out.trans (hb3.mono HB2.out.size))
      have HK3 := Lib.hid (HK2.out.below hb3 HK2.out.lt)
      clear hA hb3 HB2 HK2 HR2 e5 e6
      go_wp2_with fail
      have HSB : Hid (∀ W, Below w3.heap.size w3 W → BB W w.heap.size 23 exK) := Lib.hid (fun W hW => HK3.out.below hW HK3.out.lt)
      have HB0 : Hid (Below w3.heap.size w3 w3.drew) := (Below.refl _ _).drew
      have HSL := Lib.hid (key_sizeL exK exK_len)
      refine wp_region_held_drew (S := fun W => BB W w.heap.size 23 exK) (by kernel_rfl) (HSB.out _ HB0.out) (fun hHeld => ?_)
      refine wpAnyH_take (i := 0) (v := .agg (bvA exK)) rfl (by kernel_rfl) (by kernel_rfl) (by kernel_rfl) (fun _ _ _ h => h) (yieldsIf_load_mid (by rfl) 23 (.tmp 1) rfl w.heap.size 0 rfl (exK.map bv) _ (fun _ h => h.range) Tryd.underlying23 rfl HSL.out) hHeld ?_
      simp only [Act.put, List.getElem_toArray, List.getElem_cons_zero, List.getElem_cons_succ, List.setIfInBounds_toArray, List.set_cons_zero, List.set_cons_succ]
      refine wpAnyH_take (i := 1) (v := .agg (bvA exZ)) rfl (by kernel_rfl) (by kernel_rfl) (by kernel_rfl) (fun _ _ _ h => h) (Or.inl ⟨by rfl, fun w _ => by go_simp; rfl⟩) hHeld ?_
      simp only [Act.put, List.getElem_toArray, List.getElem_cons_zero, List.getElem_cons_succ, List.setIfInBounds_toArray, List.set_cons_zero, List.set_cons_succ]
      refine wpAnyH_ready (rs := [2]) (by kernel_rfl) (by simp) (AllReadyH.cons rfl (fun K hK => ?_) AllReadyH.nil)
      rw [if_pos (by rfl)]
      refine wp_makeB rfl 15 (by decide) (by rfl) (by rfl) ?_
      intro w4 g hm hg hb4
      have HE4 := Lib.hid (HB0.out.trans (hb4.mono HB0.out.size))
      have HM := Lib.hid hm
      clear hm hg hb4
      refine hK.out _ _ (HSB.out _ HE4.out) (fun hHeld => ?_)
      clear hK K
      try simp only [Act.put, List.getElem_toArray, List.getElem_cons_zero, List.getElem_cons_succ, List.setIfInBounds_toArray, List.set_cons_zero, List.set_cons_succ]
      refine wpAnyH_ready (rs := [3]) (by kernel_rfl) (by simp) (AllReadyH.cons rfl (fun K hK => ?_) AllReadyH.nil)
      go_simp
      refine (Open_any exK exZ exK_len (by decide) [] (List.replicate 15 0) none 0 0 _ 15 15 w4 (HT.out.below (HB3.out.trans (HE4.out.mono HB3.out.size)) HT.out.lt) (RdV.nil w4) HM.out (by decide)).mono ?_
      rw [e7, e8]
      rintro e w5 hA
      obtain ⟨a5, c5, rfl, -, hb5⟩ := hA.open
      have HE5 := Lib.hid (HE4.out.trans (hb5.mono HE4.out.size))
      clear hA hb5 HM HE4 e7 e8
      try go_wp2_with fail
      refine hK.out _ _ (HSB.out _ HE5.out) (fun hHeld => ?_)
      clear hK K
      try simp only [Act.put, List.getElem_toArray, List.getElem_cons_zero, List.getElem_cons_succ, List.setIfInBounds_toArray, List.set_cons_zero, List.set_cons_succ]
      refine wpAnyH_take (i := 4) (v := .tuple #[.slice a5 0 c5, .int .i64 60]) rfl (by kernel_rfl) (by kernel_rfl) (by kernel_rfl) (fun _ _ _ h => h) (Or.inl ⟨by rfl, fun w _ => by go_simp⟩) hHeld ?_
      simp only [Act.put, List.getElem_toArray, List.getElem_cons_zero, List.getElem_cons_succ, List.setIfInBounds_toArray, List.set_cons_zero, List.set_cons_succ]
      refine wpAnyH_take (i := 5) (v := .slice a5 0 c5) rfl (by kernel_rfl) (by kernel_rfl) (by kernel_rfl) (fun _ _ _ h => h) (Or.inl ⟨by rfl, fun w _ => by go_simp⟩) hHeld ?_
      simp only [Act.put, List.getElem_toArray, List.getElem_cons_zero, List.getElem_cons_succ, List.setIfInBounds_toArray, List.set_cons_zero, List.set_cons_succ]
      refine wpAnyH_take (i := 6) (v := .int .i64 60) rfl (by kernel_rfl) (by kernel_rfl) (by kernel_rfl) (fun _ _ _ h => h) (Or.inl ⟨by rfl, fun w _ => by go_simp⟩) hHeld ?_
      simp only [Act.put, List.getElem_toArray, List.getElem_cons_zero, List.getElem_cons_succ, List.setIfInBounds_toArray, List.set_cons_zero, List.set_cons_succ]
      refine wpAnyH_take (i := 7) (v := .slice a5 0 c5) rfl (by kernel_rfl) (by kernel_rfl) (by kernel_rfl) (fun _ _ _ h => h) (Or.inl ⟨by rfl, fun w _ => by go_simp⟩) hHeld ?_
      simp only [Act.put, List.getElem_toArray, List.getElem_cons_zero, List.getElem_cons_succ, List.setIfInBounds_toArray, List.set_cons_zero, List.set_cons_succ]
      refine wpAnyH_take (i := 8) (v := .int .i64 60) rfl (by kernel_rfl) (by kernel_rfl) (by kernel_rfl) (fun _ _ _ h => h) (Or.inl ⟨by rfl, fun w _ => by go_simp⟩) hHeld ?_
      simp only [Act.put, List.getElem_toArray, List.getElem_cons_zero, List.getElem_cons_succ, List.setIfInBounds_toArray, List.set_cons_zero, List.set_cons_succ]
      refine wpAnyH_done (by kernel_rfl) ?_ _
      have HR5 := Lib.hid (HR3.out.call HE5.out)
      have HB5 := Lib.hid (HB3.out.trans (HE5.out.mono HB3.out.size))
      have HK5 := Lib.hid (HSB.out _ HE5.out)
      clear hHeld HB0 HSB HE5 HB3 HK3 HR3
      have hcv := fun (W : World) (C : Array Value) (n c : Nat) => Lib.run_convert_bytes_const (P := Tryd.prog) W 28 5 C n c Tryd.underlying28 Tryd.underlying5
      have hcw := fun (W : World) (o : Obj) (C : Array Value) (n c : Nat) => Joins.run_convert_bytes_const_at (P := Tryd.prog) (W.alloc o) 28 5 C n c (W.heap.size + 1) (by rw [alloc_size]) Tryd.underlying28 Tryd.underlying5
      go_wp2_with (refine wpList_load_row rfl 23 (.tmp 1) rfl w.heap.size rfl _ (bvA exK) (0, 0) _ HK5.out Tryd.underlying23 rfl HSK.out ?_)
      clear hcw
      obtain ⟨w6, hw6⟩ : ∃ w6, w6 = (w5.alloc (.cells (bvA exH) 5 (4, 5))).alloc (.cells (bvA exB) 5 (4, 5)) := ⟨_, rfl⟩
      have hb6 : Below w5.heap.size w5 w6 := hw6 ▸ ((Below.refl _ _).alloc (Nat.le_refl _) _).alloc (by rw [alloc_size]; omega) _
      have HR6 := Lib.hid (HR5.out.call hb6)
      have HB6 := Lib.hid (HB5.out.trans (hb6.mono HB5.out.size))
      have HK6 := Lib.hid (HK5.out.below hb6 HK5.out.lt)
      have HH6 : Hid (RdV w6 (.slice (some ⟨w5.heap.size, 0, none⟩) 4 4) exH) := Lib.hid (by rw [hw6]; exact (RdV.const w5 exH (by decide)).call ((Below.refl _ _).alloc (Nat.le_refl _) _))
      have HY6 : Hid (RdV w6 (.slice (some ⟨w5.heap.size + 1, 0, none⟩) 4 4) exB) := Lib.hid (by rw [hw6]; have h := RdV.const (w5.alloc (.cells (bvA exH) 5 (4, 5))) exB (by decide); rw [alloc_size] at h; exact h)
      change Calls _ _ #[.agg (bvA exK), .agg (bvA exZ), .slice (some ⟨w5.heap.size, 0, none⟩) 4 4, .slice (some ⟨w5.heap.size + 1, 0, none⟩) 4 4] ((w5.alloc (.cells (bvA exH) 5 (4, 5))).alloc (.cells (bvA exB) 5 (4, 5))) _
      rw [← hw6]
      refine (Seal_any exK exZ exK_len (by decide) exH exB _ 4 4 _ 4 4 w6 (HT.out.below HB6.out HT.out.lt) HH6.out HY6.out (by decide)).mono ?_
      rw [e9, e10]
      rintro e w7 hA
      obtain ⟨a7, c7, rfl, ho7, hb7⟩ := hA.open
      rw [hs0] at ho7 ⊢
      have HS7 := Lib.hid ho7.rdv
      have HR7 := Lib.hid (HR6.out.call hb7)
      have HB7 := Lib.hid (HB6.out.trans (hb7.mono HB6.out.size))
      have HK7 := Lib.hid (HK6.out.below hb7 HK6.out.lt)
      clear hA hb7 ho7 hb6 hw6 HR5 HR6 HB5 HB6 HK5 HK6 HH6 HY6 e9 e10
      go_wp2_with (refine wpList_load_row rfl 23 (.tmp 1) rfl w.heap.size rfl _ (bvA exK) (0, 0) _ HK7.out Tryd.underlying23 rfl HSK.out ?_)
      obtain ⟨w8, hw8⟩ : ∃ w8, w8 = w7.alloc (.cells (bvA exH) 5 (4, 5)) := ⟨_, rfl⟩
      have hb8 : Below w7.heap.size w7 w8 := hw8 ▸ (Below.refl _ _).alloc (Nat.le_refl _) _
      have HH8 : Hid (RdV w8 (.slice (some ⟨w7.heap.size, 0, none⟩) 4 4) exH) := Lib.hid (by rw [hw8]; exact RdV.const w7 exH (by decide))
      have HR8 := Lib.hid (HR7.out.call hb8)
      have HS8 := Lib.hid (HS7.out.call hb8)
      have HB8 := Lib.hid (HB7.out.trans (hb8.mono HB7.out.size))
      change Calls _ _ #[.agg (bvA exK), .agg (bvA exZ), .slice (some ⟨w7.heap.size, 0, none⟩) 4 4, .slice a7 20 c7] (w7.alloc (.cells (bvA exH) 5 (4, 5))) _
      rw [← hw8]
      refine (Open_any exK exZ exK_len (by decide) exH (sealC exK exZ exH exB) _ 4 4 _ 20 c7 w8 (HT.out.below HB8.out HT.out.lt) HH8.out HS8.out (by decide)).mono ?_
      rw [e11, e12]
      rintro e w9 hA
      obtain ⟨a9, c9, rfl, ho9, hb9⟩ := hA.open
      have hst : (convert 28 9 (.slice a9 4 c9)).run Tryd.prog w9 = .ok (.string ⟨#[98, 111, 100, 121]⟩) w9 := ho9.rdv.str
      rw [show exB.length = 4 from rfl]
      have HB9 := Lib.hid (HB8.out.trans (hb9.mono HB8.out.size))
      obtain ⟨a', c', he, hrd, -⟩ := (HR8.out.call hb9).form
      injection he with he1 he2 he3
      subst he1
      obtain ⟨bb, oo, rfl, _, hc⟩ := hrd.at_ (by rw [HX1.out]; decide)
      have hX := HX0.out
      have g0 : X1[0]'(by rw [HX1.out]; decide) = 0x10 := by have := congrArg (fun l : List UInt8 => l[0]?) hX; simpa [HX1.out] using this
      have g1 : X1[1]'(by rw [HX1.out]; decide) = 0xf1 := by have := congrArg (fun l : List UInt8 => l[1]?) hX; simpa [HX1.out] using this
      have g2 : X1[2]'(by rw [HX1.out]; decide) = 0xe7 := by have := congrArg (fun l : List UInt8 => l[2]?) hX; simpa [HX1.out] using this
      have g3 : X1[3]'(by rw [HX1.out]; decide) = 0xe4 := by have := congrArg (fun l : List UInt8 => l[3]?) hX; simpa [HX1.out] using this
      have k0 := hc 0 (by rw [HX1.out]; decide)
      have k1 := hc 1 (by rw [HX1.out]; decide)
      have k2 := hc 2 (by rw [HX1.out]; decide)
      have k3 := hc 3 (by rw [HX1.out]; decide)
      rw [g0] at k0
      replace k0 : w9.cell? ⟨bb, oo + 0, none⟩ = some (.int .u8 16) := k0
      rw [g1] at k1
      replace k1 : w9.cell? ⟨bb, oo + 1, none⟩ = some (.int .u8 241) := k1
      rw [g2] at k2
      replace k2 : w9.cell? ⟨bb, oo + 2, none⟩ = some (.int .u8 231) := k2
      rw [g3] at k3
      replace k3 : w9.cell? ⟨bb, oo + 3, none⟩ = some (.int .u8 228) := k3
      rw [Nat.add_zero] at k0
      clear hA hb9 ho9 hrd hc hX g0 g1 g2 g3 hw8 hb8 HH8 HR7 HR8 HS7 HS8 HB7 HB8 HK7 hcv he2 he3
      go_wp2_with fail
      go_ret
      exact ⟨rfl, HB9.out⟩
end Go.Proofs.YtcibbghggfklbaaDoor
