/-
  The walk of chartroomlaw06.CipherPlaces.
-/
import Derived.Test.YtcibbghggfklbaaDoorCv
namespace Go.Proofs.YtcibbghggfklbaaDoor
open Go.RowKit
set_option linter.unusedVariables false
set_option linter.unusedSimpArgs false

theorem and_mask (c : Int) (m : Nat) (hm : m < 9223372036854775808) : ∃ x : Nat, bits .and .i64 c (m : Int) = (x : Int) ∧ x ≤ m := by
  refine ⟨(BitVec.ofInt 64 c).toNat &&& m, ?_, Nat.and_le_right⟩
  show IntKind.i64.wrap ((BitVec.ofInt 64 c &&& BitVec.ofInt 64 (m : Int)).toNat : Int) = _
  have hle : (BitVec.ofInt 64 c).toNat &&& m ≤ m := Nat.and_le_right
  rw [BitVec.ofInt_natCast, BitVec.toNat_and, BitVec.toNat_ofNat, Nat.mod_eq_of_lt (by omega : m < 2 ^ 64)]
  generalize (BitVec.ofInt 64 c).toNat &&& m = x at *
  exact IntWalk.i64_in _ (by omega)
theorem cstream_zeros (k n : List UInt8) (q i : Nat) (h : i < q) : (cstream k n (List.replicate q 0)).getD i 0 = cbyte k n i := by
  rw [List.getD, cstream_get _ _ _ i (by rw [List.length_replicate]; exact h), List.getElem_replicate, UInt8.zero_xor]; rfl
theorem cstream_getD (k n l : List UInt8) (i : Nat) (h : i < l.length) : (cstream k n l).getD i 0 = l.getD i 0 ^^^ cbyte k n i := by
  rw [List.getD, cstream_get _ _ _ i h, List.getD, List.getElem?_eq_getElem h]; rfl
theorem RdV.cell {w : World} {a : Option Addr} {q c : Nat} {l : List UInt8} (h : RdV w (.slice a q c) l) (hq : 0 < q) : ∃ b o, a = some ⟨b, o, none⟩ ∧ b < w.heap.size ∧ ∀ j, j < q → w.cell? ⟨b, o + j, none⟩ = some (.int .u8 ((l.getD j 0).toNat : Int)) := by
  have hl := h.len
  obtain ⟨a', c', e, h1, _⟩ := h.form
  injection e with e1 e2 e3
  subst e1
  obtain ⟨b, o, rfl, hb, hc⟩ := h1.at_ (by omega)
  refine ⟨b, o, rfl, hb, fun j hj => ?_⟩
  rw [hc j (by omega), List.getD, List.getElem?_eq_getElem (by omega)]; rfl

set_option maxRecDepth 100000 in
set_option maxHeartbeats 4000000 in
theorem places_walk6 (k n : List UInt8) (hk : k.length = 32) (hn : n.length = 12) (A : List UInt8) (aa : Option Addr) (q ca : Nat) (ct : Int) (w : World) (hT : Tab w) (hA : RdV w (.slice aa q ca) A) :
    Calls Tryd.prog 7 #[.agg (bvA k), .agg (bvA n), .slice aa q ca, .int .i64 ct] w fun e w' => e = .returned (.bool true) ∧ Below w.heap.size w w' := by
  have HSK := Lib.hid (key_size k hk)
  have HSN := Lib.hid (nonce_size n hn)
  have HLK := Lib.hid hk
  have HLN := Lib.hid hn
  have HT := Lib.hid hT
  obtain ⟨w1, hw1⟩ : ∃ w1, w1 = (w.alloc (.cells (bvA k) 23)).alloc (.cells (bvA n) 25) := ⟨_, rfl⟩
  have HK1 : Hid (KN w k n w1) := Lib.hid (hw1 ▸ KN.start w k n)
  clear hk hn hT
  have hq := hA.len
  have HA := Lib.hid hA
  have hqc := hA.caps
  have HQ := Lib.hid hq
  have HX : Hid ((cstream k n A).length = q) := Lib.hid (by rw [cstream_len, hq])
  clear hA hq
  go_enter Tryd.func7, Tryd.ntmps7
  go_wp2_with fail
  rw [← hw1]
  clear hw1
  refine (csane6_any w1 (HT.out.below HK1.out.below HT.out.lt)).mono ?_
  rintro e w2 ⟨rfl, hb2⟩
  have HK2 := Lib.hid (HK1.out.call hb2)
  clear hb2 HK1
  by_cases g1 : 400 < q
  · have f1 : decide ((400 : Int) < (q : Int)) = true := decide_eq_true (by omega)
    go_wp2_with fail
    go_ret
    exact ⟨rfl, HK2.out.below⟩
  have f1 : decide ((400 : Int) < (q : Int)) = false := decide_eq_false (by omega)
  by_cases g2 : q = 0
  · have f2 : ((q : Int) == 0) = true := by rw [g2]; rfl
    go_wp2_with fail
    go_ret
    exact ⟨rfl, HK2.out.below⟩
  have f2 : ((q : Int) == 0) = false := by rw [beq_eq_false_iff_ne]; omega
  have iq : (q : Int) ≤ 400 := by omega
  have HIQ := Lib.hid (And.intro (by omega : 0 < q) (by omega : q ≤ 400))
  obtain ⟨x, hx, hx2⟩ := and_mask ct 1023 (by decide)
  replace hx : bits .and .i64 ct 1023 = (x : Int) := hx
  obtain ⟨m, hm, hmq⟩ : ∃ m : Nat, (x : Int).tmod ((q : Int) + 1) = (m : Int) ∧ m ≤ q := ⟨x % (q + 1), by rw [Int.tmod_eq_emod_of_nonneg (by omega), Int.natCast_emod]; rfl, by have := Nat.mod_lt x (by omega : 0 < q + 1); omega⟩
  have iw : IntKind.i64.wrap ((q : Int) + 1) = (q : Int) + 1 := IntWalk.i64_in _ (by omega)
  have iz : ¬ ((q : Int) + 1 = 0) := by omega
  have HMQ := Lib.hid hmq
  have hmk := fun W => run_makeZ q (by omega) W
  have HZ : Hid ((cstream k n (List.replicate q 0)).length = q) := Lib.hid (by rw [cstream_len, List.length_replicate])
  clear g1 g2 hx2
  have hbm : Below w2.heap.size w2 (w2.alloc (.cells (madeCells #[.int .u8 0] q) 5)) := (Below.refl _ _).alloc (Nat.le_refl _) _
  have HKm := Lib.hid (HK2.out.call hbm)
  have HZm : Hid (RdV (w2.alloc (.cells (madeCells #[.int .u8 0] q) 5)) (.slice (some ⟨w2.heap.size, 0, none⟩) q q) (List.replicate q 0)) := Lib.hid (OwnB.zeros (B := w2.heap.size) (w := w2) q (by omega) (Nat.le_refl _)).rdv
  go_wp2_with (first
      | (refine wpList_load_row rfl 23 (.tmp 4) rfl w.heap.size rfl _ (bvA k) (0, 0) _ HKm.out.key Tryd.underlying23 rfl HSK.out ?_)
      | (refine wpList_load_row rfl 25 (.tmp 5) rfl (w.heap.size + 1) rfl _ (bvA n) (0, 0) _ HKm.out.nonce Tryd.underlying25 rfl HSN.out ?_))
  generalize w2.alloc (.cells (madeCells #[.int .u8 0] q) 5) = w3 at *
  clear hbm hmk HK2
  refine (Stream_le k n HLK.out HLN.out A aa q ca w3 (HA.out.call HKm.out.below) (by rw [← HQ.out]; have := HIQ.out; omega)).mono ?_
  rintro e w4 hA
  obtain ⟨a1, c1, rfl, ho1, hb4⟩ := hA.open
  rw [HX.out] at ho1 ⊢
  have HR1 := Lib.hid ho1.rdv
  have HZ4 := Lib.hid (HZm.out.call hb4)
  have HK4 := Lib.hid (HKm.out.call hb4)
  clear hA ho1 hb4 HKm HZm
  go_wp2_with (first
      | (refine wpList_load_row rfl 23 (.tmp 4) rfl w.heap.size rfl _ (bvA k) (0, 0) _ HK4.out.key Tryd.underlying23 rfl HSK.out ?_)
      | (refine wpList_load_row rfl 25 (.tmp 5) rfl (w.heap.size + 1) rfl _ (bvA n) (0, 0) _ HK4.out.nonce Tryd.underlying25 rfl HSN.out ?_))
  refine (Stream_le k n HLK.out HLN.out (List.replicate q 0) _ q q w4 HZ4.out (by rw [List.length_replicate]; have := HIQ.out; omega)).mono ?_
  rintro e w5 hA
  obtain ⟨a2, c2, rfl, ho2, hb5⟩ := hA.open
  rw [HZ.out] at ho2 ⊢
  have HR2 := Lib.hid ho2.rdv
  have HR1' := Lib.hid (HR1.out.call hb5)
  have HK5 := Lib.hid (HK4.out.call hb5)
  clear hA ho2 hb5 HK4 HZ4 HR1
  go_wp2_with (first
      | (refine wpList_load_row rfl 23 (.tmp 4) rfl w.heap.size rfl _ (bvA k) (0, 0) _ HK5.out.key Tryd.underlying23 rfl HSK.out ?_)
      | (refine wpList_load_row rfl 25 (.tmp 5) rfl (w.heap.size + 1) rfl _ (bvA n) (0, 0) _ HK5.out.nonce Tryd.underlying25 rfl HSN.out ?_))
  refine (Stream_le k n HLK.out HLN.out (cstream k n A) a1 q c1 w5 HR1'.out (by rw [HX.out]; have := HIQ.out; omega)).mono ?_
  rintro e w6 hA
  obtain ⟨a3, c3, rfl, ho3, hb6⟩ := hA.open
  rw [cstream_len, HX.out] at ho3 ⊢
  rw [cstream_back] at ho3
  have HR3 := Lib.hid ho3.rdv
  have HR1 := Lib.hid (HR1'.out.call hb6)
  have HR2' := Lib.hid (HR2.out.call hb6)
  have HK6 := Lib.hid (HK5.out.call hb6)
  clear hA ho3 hb6 HK5 HR1' HR2
  go_wp2_with fail
  have HSB : Hid (∀ W, Below w6.heap.size w6 W → KN w k n W) := Lib.hid (fun W hW => HK6.out.call hW)
  have HB0 : Hid (Below w6.heap.size w6 w6.drew) := (Below.refl _ _).drew
  have HSLK := Lib.hid (key_sizeL k HLK.out)
  have HSLN := Lib.hid (nonce_sizeL n HLN.out)
  have i5 : (m : Int) ≤ (q : Int) := by omega
  have i6 : (m : Int) ≤ (ca : Int) := by omega
  refine wp_region_held_drew (S := fun W => KN w k n W) (by kernel_rfl) (HSB.out _ HB0.out) (fun hHeld => ?_)
  refine wpAnyH_take (i := 0) (v := .agg (bvA k)) rfl (by kernel_rfl) (by kernel_rfl) (by kernel_rfl) (fun _ _ _ h => h) (yieldsIf_load_mid (by rfl) 23 (.tmp 4) rfl w.heap.size 0 rfl (k.map bv) _ (fun _ h => h.key.range) Tryd.underlying23 rfl HSLK.out) hHeld ?_
  simp only [Act.put, List.getElem_toArray, List.getElem_cons_zero, List.getElem_cons_succ, List.setIfInBounds_toArray, List.set_cons_zero, List.set_cons_succ]
  refine wpAnyH_take (i := 1) (v := .agg (bvA n)) rfl (by kernel_rfl) (by kernel_rfl) (by kernel_rfl) (fun _ _ _ h => h) (yieldsIf_load_mid (by rfl) 25 (.tmp 5) rfl (w.heap.size + 1) 0 rfl (n.map bv) _ (fun _ h => h.nonce.range) Tryd.underlying25 rfl HSLN.out) hHeld ?_
  simp only [Act.put, List.getElem_toArray, List.getElem_cons_zero, List.getElem_cons_succ, List.setIfInBounds_toArray, List.set_cons_zero, List.set_cons_succ]
  refine wpAnyH_take (i := 2) (v := .slice aa q ca) rfl (by kernel_rfl) (by kernel_rfl) (by kernel_rfl) (fun _ _ _ h => h) (Or.inl ⟨by rfl, fun w _ => by go_simp⟩) hHeld ?_
  simp only [Act.put, List.getElem_toArray, List.getElem_cons_zero, List.getElem_cons_succ, List.setIfInBounds_toArray, List.set_cons_zero, List.set_cons_succ]
  refine wpAnyH_take (i := 3) (v := .int .i64 m) rfl (by kernel_rfl) (by kernel_rfl) (by kernel_rfl) (fun _ _ _ h => h) (Or.inl ⟨by rfl, fun w _ => by go_simp⟩) hHeld ?_
  simp only [Act.put, List.getElem_toArray, List.getElem_cons_zero, List.getElem_cons_succ, List.setIfInBounds_toArray, List.set_cons_zero, List.set_cons_succ]
  refine wpAnyH_take (i := 4) (v := .slice aa m ca) rfl (by kernel_rfl) (by kernel_rfl) (by kernel_rfl) (fun _ _ _ h => h) (Or.inl ⟨by rfl, fun w _ => by go_simp⟩) hHeld ?_
  simp only [Act.put, List.getElem_toArray, List.getElem_cons_zero, List.getElem_cons_succ, List.setIfInBounds_toArray, List.set_cons_zero, List.set_cons_succ]
  refine wpAnyH_ready (rs := [5]) (by kernel_rfl) (by simp) (AllReadyH.cons rfl (fun K hK => ?_) AllReadyH.nil)
  go_simp
  refine (Stream_le k n HLK.out HLN.out (A.take m) aa m ca _ ((HA.out.cut m (by omega)).call (HK6.out.below.trans (HB0.out.mono HK6.out.below.size))) (by rw [List.length_take]; have := HIQ.out; omega)).mono ?_
  rintro e w7 hA
  obtain ⟨a4, c4, rfl, ho4, hb7⟩ := hA.open
  rw [cstream_len, List.length_take, ← HQ.out, Nat.min_eq_left HMQ.out] at ho4 ⊢
  have HR4 := Lib.hid ho4.rdv
  have HE7 := Lib.hid (HB0.out.trans (hb7.mono HB0.out.size))
  clear hA ho4 hb7
  try go_wp2_with fail
  refine hK.out _ _ (HSB.out _ HE7.out) (fun hHeld => ?_)
  clear hK K
  try simp only [Act.put, List.getElem_toArray, List.getElem_cons_zero, List.getElem_cons_succ, List.setIfInBounds_toArray, List.set_cons_zero, List.set_cons_succ]
  refine wpAnyH_take (i := 6) (v := .tuple #[.slice a4 m c4, .int .i64 0]) rfl (by kernel_rfl) (by kernel_rfl) (by kernel_rfl) (fun _ _ _ h => h) (Or.inl ⟨by rfl, fun w _ => by go_simp⟩) hHeld ?_
  simp only [Act.put, List.getElem_toArray, List.getElem_cons_zero, List.getElem_cons_succ, List.setIfInBounds_toArray, List.set_cons_zero, List.set_cons_succ]
  refine wpAnyH_take (i := 7) (v := .slice a4 m c4) rfl (by kernel_rfl) (by kernel_rfl) (by kernel_rfl) (fun _ _ _ h => h) (Or.inl ⟨by rfl, fun w _ => by go_simp⟩) hHeld ?_
  simp only [Act.put, List.getElem_toArray, List.getElem_cons_zero, List.getElem_cons_succ, List.setIfInBounds_toArray, List.set_cons_zero, List.set_cons_succ]
  refine wpAnyH_take (i := 8) (v := .int .i64 0) rfl (by kernel_rfl) (by kernel_rfl) (by kernel_rfl) (fun _ _ _ h => h) (Or.inl ⟨by rfl, fun w _ => by go_simp⟩) hHeld ?_
  simp only [Act.put, List.getElem_toArray, List.getElem_cons_zero, List.getElem_cons_succ, List.setIfInBounds_toArray, List.set_cons_zero, List.set_cons_succ]
  refine wpAnyH_take (i := 9) (v := .slice a4 m c4) rfl (by kernel_rfl) (by kernel_rfl) (by kernel_rfl) (fun _ _ _ h => h) (Or.inl ⟨by rfl, fun w _ => by go_simp⟩) hHeld ?_
  simp only [Act.put, List.getElem_toArray, List.getElem_cons_zero, List.getElem_cons_succ, List.setIfInBounds_toArray, List.set_cons_zero, List.set_cons_succ]
  refine wpAnyH_take (i := 10) (v := .int .i64 0) rfl (by kernel_rfl) (by kernel_rfl) (by kernel_rfl) (fun _ _ _ h => h) (Or.inl ⟨by rfl, fun w _ => by go_simp⟩) hHeld ?_
  simp only [Act.put, List.getElem_toArray, List.getElem_cons_zero, List.getElem_cons_succ, List.setIfInBounds_toArray, List.set_cons_zero, List.set_cons_succ]
  refine wpAnyH_done (by kernel_rfl) ?_ _
  have HK7 := Lib.hid (HSB.out _ HE7.out)
  have h1 := HR1.out.call HE7.out
  have h2 := HR2'.out.call HE7.out
  have h3 := HR3.out.call HE7.out
  have h5 := HA.out.call HK7.out.below
  have H1 := Lib.hid h1
  have H2 := Lib.hid h2
  have H5 := Lib.hid h5
  have u1 := h1.cut m HMQ.out
  have i1 : m ≤ c1 := u1.caps
  have v3 := RdV.str (w := w7.drew) h3
  have v5 := RdV.str (w := w7.drew) h5
  have v4 := RdV.str (w := w7.drew) HR4.out
  rw [cstream_take] at v4
  have v1 := RdV.str (w := w7.drew) u1
  obtain ⟨t3, q3⟩ : ∃ s, (⟨A.toArray⟩ : ByteArray) = s := ⟨_, rfl⟩
  obtain ⟨t5, q5⟩ : ∃ s, (⟨A.toArray⟩ : ByteArray) = s := ⟨_, rfl⟩
  obtain ⟨t4, q4⟩ : ∃ s, (⟨((cstream k n A).take m).toArray⟩ : ByteArray) = s := ⟨_, rfl⟩
  obtain ⟨t1, q1⟩ : ∃ s, (⟨((cstream k n A).take m).toArray⟩ : ByteArray) = s := ⟨_, rfl⟩
  have r35 : (t3.toList == t5.toList) = true := by rw [← q3, ← q5, str_beq]; exact beq_self_eq_true _
  have r41 : (t4.toList == t1.toList) = true := by rw [← q4, ← q1, str_beq]; exact beq_self_eq_true _
  rw [q3] at v3
  rw [q5] at v5
  rw [q4] at v4
  rw [q1] at v1
  clear q1 q3 q4 q5 h1 h2 h3 h5 u1 HR1 HR2' HR3 HR4 HE7 HSB HB0 hHeld
  go_wp2_with fail
  go_still (by kernel_rfl)
  clear v1 v3 v4 v5 r35 r41 i1
  obtain ⟨b1, o1, rfl, -, C1⟩ := H1.out.cell HIQ.out.1
  obtain ⟨b2, o2, rfl, -, C2⟩ := H2.out.cell HIQ.out.1
  obtain ⟨b5, o5, rfl, -, C5⟩ := H5.out.cell HIQ.out.1
  have HC1 := Lib.hid C1
  have HC2 := Lib.hid C2
  have HC5 := Lib.hid C5
  have HXE : Hid (∀ j, j < q → (cstream k n A).getD j 0 = A.getD j 0 ^^^ (cstream k n (List.replicate q 0)).getD j 0) := Lib.hid (fun j hj => by rw [cstream_getD k n A j (by rw [← HQ.out]; exact hj), cstream_zeros k n q j hj])
  clear C1 C2 C5 H1 H2 H5
  generalize cstream k n (List.replicate q 0) = Zs at *
  generalize cstream k n A = X at *
  go_wp2_with fail
  go_loopw [115] (fun i wr => ∃ j : Nat, j ≤ q ∧ i = .int .i64 j ∧ ∃ N, wr = w7.drewN N) (fun i _ => q - (intOf i).toNat)
  case atStart => exact ⟨0, by omega, rfl, 1, rfl⟩
  case round =>
    obtain ⟨j, hj, rfl, N, hwr⟩ := hrel
    by_cases hlt : j < q
    · have k1 : wr.cell? ⟨b1, o1 + j, none⟩ = some (.int .u8 ((X.getD j 0).toNat : Int)) := by rw [hwr]; exact HC1.out j hlt
      have k2 : wr.cell? ⟨b2, o2 + j, none⟩ = some (.int .u8 ((Zs.getD j 0).toNat : Int)) := by rw [hwr]; exact HC2.out j hlt
      have k5 : wr.cell? ⟨b5, o5 + j, none⟩ = some (.int .u8 ((A.getD j 0).toNat : Int)) := by rw [hwr]; exact HC5.out j hlt
      have hx := bv_xor (A.getD j 0) (Zs.getD j 0)
      rw [← HXE.out j hlt] at hx
      generalize X.getD j 0 = xj at *
      generalize Zs.getD j 0 = zj at *
      generalize A.getD j 0 = aj at *
      have ij : (j : Int) < (q : Int) := by omega
      have HWR := Lib.hid hwr
      clear hwr
      go_wp2_with fail
      go_still (by kernel_rfl)
      go_wp2_with fail
      go_roundw
      case rel => exact ⟨j + 1, by omega, by go_num, N + 1, by rw [HWR.out]; rfl⟩
      case measure => simp [intOf]; omega
    · obtain rfl : j = q := by omega
      subst hwr
      go_wp2_with fail
      go_ret
      exact ⟨rfl, below_dN HK7.out.below _⟩
end Go.Proofs.YtcibbghggfklbaaDoor
