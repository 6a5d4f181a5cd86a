/-
  Package pake: Proof.
-/
import Derived.Test.YtkpecfhcdechmaaDoorJh
namespace Go.Proofs.YtkpecfhcdechmaaDoor
open Go.RowKit
set_option linter.unusedVariables false
set_option linter.unusedSimpArgs false

/-- The key block of a call, stored. -/
theorem key_stored {w2 w3 : World} {K : List UInt8} (h3 : w3.heap[w2.heap.size]? = some (.cells (bvA K) 32 (0, 0))) (hg3 : (w2.alloc (.cells (bvA zK) 32)).grownBy w3 (some w2.heap.size)) : BB w3 w2.heap.size 32 K ∧ Below w2.heap.size w2 w3 :=
  ⟨h3, grown_below ((Below.refl _ _).alloc (Nat.le_refl _) _) hg3 (Nat.le_refl _) (by simp)⟩
theorem dig_stored {w2 w3 : World} {K : List UInt8} (h3 : w3.heap[w2.heap.size]? = some (.cells (bvA K) 31 (0, 0))) (hg3 : (w2.alloc (.cells (bvA zK) 31)).grownBy w3 (some w2.heap.size)) : BB w3 w2.heap.size 31 K ∧ Below w2.heap.size w2 w3 :=
  ⟨h3, grown_below ((Below.refl _ _).alloc (Nat.le_refl _) _) hg3 (Nat.le_refl _) (by simp)⟩
open Classical in
/-- What Proof returns. -/
noncomputable def prW (r c s p : Int) : List UInt8 := if okS r c s p then prP (kyW r c s p) (roB r) else zK
theorem prW_ok {r c s p : Int} (h : okS r c s p) : prW r c s p = prP (kyW r c s p) (roB r) := if_pos h
theorem prW_bad {r c s p : Int} (h : ¬ okS r c s p) : prW r c s p = zK := if_neg h
theorem prW_len (r c s p : Int) : (prW r c s p).length = 32 := by
  unfold prW
  split
  · exact prP_len _ _
  · rfl
set_option maxRecDepth 100000 in
set_option maxHeartbeats 1600000 in
theorem Proof_any (r c n p : Int) (w : World) (hT : Tab w) :
    Calls Tryd.prog 17 #[sidV r c n, .int .i64 p] w fun e w' => e = .returned (.tuple #[.agg (bvA (prW r c n p)), .int .i64 (shE r c n p)]) ∧ Below w.heap.size w w' := by
  have HT := Lib.hid hT
  have KP := Lib.hid (fun W h2 => Shared_any r c n p W h2)
  have KD := Lib.hid (fun W h2 => proofOf_any (kyW r c n p) (kyW_len r c n p) r W h2)
  have HLK := Lib.hid (kyW_len r c n p)
  have HL := Lib.hid (prW_len r c n p)
  have HW := Lib.hid (fun h => prW_ok (r := r) (c := c) (s := n) (p := p) h)
  have HV := Lib.hid (fun h => prW_bad (r := r) (c := c) (s := n) (p := p) h)
  obtain ⟨K, hK⟩ : ∃ K, kyW r c n p = K := ⟨_, rfl⟩
  obtain ⟨D, hD⟩ : ∃ D, prW r c n p = D := ⟨_, rfl⟩
  rw [hK] at KP KD HLK HW
  rw [hD] at HL HW HV ⊢
  have HF1 := Lib.hid (ShF.start w 31 r c n)
  obtain ⟨w1, hw1⟩ : ∃ w1, w1 = shW w 31 r c n := ⟨_, rfl⟩
  rw [← hw1] at HF1
  by_cases hok : okS r c n p
  · rw [shE_ok hok] at KP ⊢
    have HDD := Lib.hid (HW.out hok)
    rw [← HDD.out] at KD
    unfold sidV at *
    clear hT hK hD HW HV hok HDD
    go_enter Tryd.func17, Tryd.ntmps17
    have c0 : w1.cell? ⟨w.heap.size, 0, none⟩ = some (.int .i64 r) := HF1.out.side.cell 0
    have c1 : w1.cell? ⟨w.heap.size, 1, none⟩ = some (.int .i64 c) := HF1.out.side.cell 1
    have c2 : w1.cell? ⟨w.heap.size, 2, none⟩ = some (.int .i64 n) := HF1.out.side.cell 2
    go_wp2_with fail
    change Calls _ _ _ (shW w 31 r c n) _
    rw [← hw1]
    clear hw1 c0 c1 c2
    refine (KP.out _ (HF1.out.tab HT.out)).mono ?_
    rintro e w2 ⟨rfl, hb⟩
    have HF2 := Lib.hid (HF1.out.call hb)
    clear hb HF1 KP
    go_wp2_with (refine wpList_storeA rfl 32 (.tmp 6) (.tmp 11) rfl w2.heap.size (bvA K) rfl rfl 32 _ (BB.new w2 _ zK) (key_sz _ HLK.out) (key_old _ HLK.out) (bvA_one _) ?_)
    intro w3 h3 hg3
    obtain ⟨hk3, hb3⟩ := key_stored h3 hg3
    have HK3 := Lib.hid hk3
    have HF3 := Lib.hid (HF2.out.call hb3)
    clear h3 hg3 hk3 hb3 HF2
    generalize w2.heap.size = gk at *
    have c0 : w3.cell? ⟨w.heap.size, 0, none⟩ = some (.int .i64 r) := HF3.out.side.cell 0
    go_wp2_with (refine wpList_load_row rfl 32 (.tmp 6) rfl gk rfl _ (bvA K) (0, 0) _ HK3.out key_und rfl (key_sz _ HLK.out) ?_)
    clear c0
    refine (KD.out _ (HF3.out.tab HT.out)).mono ?_
    rintro e w4 ⟨rfl, hb⟩
    have HF4 := Lib.hid (HF3.out.call hb)
    clear hb HF3 HK3 KD
    go_wp2_with (refine wpList_storeA rfl 31 (.tmp 4) (.tmp 20) rfl (w.heap.size + 1) (bvA D) rfl rfl 31 _ HF4.out.key (digP_sz _ HL.out) (key_old _ HL.out) (bvA_one _) ?_)
    intro w8 h8 hg8
    have hB8 := grown_below HF4.out.below hg8 (by omega) (by have := HF4.out.key.lt; omega)
    go_wp2_with fail
    refine bodyPost_ret (v := .tuple #[.agg (bvA D), .int .i64 0]) ?_ rfl ⟨rfl, hB8⟩
    exact results_cell_row_tmp rfl _ _ (w.heap.size + 1) 31 _ (0, 0) _ rfl h8 digP_und rfl (digP_sz _ HL.out) _ rfl
  · rw [shE_bad hok] at KP ⊢
    have hDD := HV.out hok
    have hKK : K = zK := by rw [← hK]; exact kyW_bad hok
    subst hDD
    subst hKK
    unfold sidV at *
    clear hT hK hD HW HV hok KD
    go_enter Tryd.func17, Tryd.ntmps17
    go_wp2_with fail
    change Calls _ _ _ (shW w 31 r c n) _
    rw [← hw1]
    clear hw1
    refine (KP.out _ (HF1.out.tab HT.out)).mono ?_
    rintro e w2 ⟨rfl, hb⟩
    have HF2 := Lib.hid (HF1.out.call hb)
    clear hb HF1 KP
    go_wp2_with (refine wpList_storeA rfl 32 (.tmp 6) (.tmp 11) rfl w2.heap.size (bvA zK) rfl rfl 32 _ (BB.new w2 _ zK) (key_sz _ HLK.out) (key_old _ HLK.out) (bvA_one _) ?_)
    intro w3 h3 hg3
    obtain ⟨hk3, hb3⟩ := key_stored h3 hg3
    have HF3 := Lib.hid (HF2.out.call hb3)
    clear h3 hg3 hk3 hb3 HF2
    generalize w2.heap.size = gk at *
    go_wp2_with (first
      | (refine wpList_built rfl 31 #[] rfl [] rfl (bvA zK) (by kernel_rfl) ?_)
      | (refine wpList_storeA rfl 31 (.tmp 4) (.tmp 15) rfl (w.heap.size + 1) (bvA zK) rfl rfl 31 _ HF3.out.key (digP_sz _ HL.out) (key_old _ HL.out) (bvA_one _) ?_))
    intro w8 h8 hg8
    have hB8 := grown_below HF3.out.below hg8 (by omega) (by have := HF3.out.key.lt; omega)
    go_wp2_with fail
    refine bodyPost_ret (v := .tuple #[.agg (bvA zK), .int .i64 100]) ?_ rfl ⟨rfl, hB8⟩
    exact results_cell_row_tmp rfl _ _ (w.heap.size + 1) 31 _ (0, 0) _ rfl h8 digP_und rfl (digP_sz _ HL.out) _ rfl
end Go.Proofs.YtkpecfhcdechmaaDoor
