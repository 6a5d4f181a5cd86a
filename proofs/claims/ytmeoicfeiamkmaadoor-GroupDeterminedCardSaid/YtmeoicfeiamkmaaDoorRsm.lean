/-
  The reference's Sum.
-/
import Derived.Test.YtmeoicfeiamkmaaDoorBlk
namespace Go.Proofs.YtmeoicfeiamkmaaDoor
open Go.RowKit
set_option linter.unusedVariables false
set_option linter.unusedSimpArgs false

theorem stN_next (m : List UInt8) (k : Nat) : stN m (k + 1) = comp (stN m k) (wordsOf ((m.drop (64 * k)).take 64)) := rfl

theorem slice_mid (g o L cp n : Nat) (h : n + 64 ≤ L) (hL : L ≤ cp) (W : World) : (Instr.slice 22 (.slice (some ⟨g, o, none⟩) L cp) (some (.int .i64 (n : Int))) (some (.int .i64 ((n : Int) + 64))) none).run Tryd.prog W = .ok (.slice (some ⟨g, o + n, none⟩) 64 (cp - n)) W := by
  rw [run_slice_lh (P := Tryd.prog) W 22 (some ⟨g, o, none⟩) L cp (by kernel_rfl) .i64 .i64 (n : Int) ((n : Int) + 64) (by omega) (by omega) (by omega)]
  have hz : (sizeOf (Tryd.prog.elem 22)).run Tryd.prog W = .ok 1 W := by kernel_rfl
  rw [hz]
  have h4 : ¬ (cp = n) := by omega
  have h5 : ((n : Int) + 64).toNat - n = 64 := by omega
  simp [Result.andThen, sliced, h4, h5, Addr.add]

set_option maxRecDepth 100000 in
set_option maxHeartbeats 6400000 in
theorem refSum (a : Option Addr) (cap : Nat) (l : List UInt8) (w : World) (hl : RdB w.heap.size w a l) (hcap : l.length ≤ cap) (hc2 : cap ≤ maxLen) (hnil : a = none → cap = 0) (hn : l.length ≤ 70368744177664) :
    Calls Tryd.prog 28 #[.slice a l.length cap] w fun e w' => e = .returned (.agg (bvA (sha l))) ∧ Below w.heap.size w w' := by
  have HL := Lib.hid hl
  have HN := Lib.hid hnil
  clear hl hnil
  obtain ⟨Z, hZ⟩ : ∃ Z, Z = wv hNums := ⟨_, rfl⟩
  have HZ := Lib.hid hZ
  have HSZ : Hid ((Tryd.prog.info? 52).map (·.size) = some Z.size) := by show _ = _; rw [hZ]; kernel_rfl
  have HONE : Hid (Z.all (·.oneCell') = true) := by show _ = _; rw [hZ]; exact wv_one _
  have HOLD : Hid ((wv (List.replicate 8 0)).size = Z.size) := by show _ = _; rw [hZ]; rfl
  clear hZ
  go_enter Tryd.func28, Tryd.ntmps28
  go_wp2_with (first
    | ((with_reducible show wpList _ _ _ (({ dst := some 8, op := _, type := _, pos := _, after := _, guard := _ } : Oper) :: _) _ _); go_must (refine wpList_built rfl 52 _ rfl _ rfl Z (by rw [HZ.out]; kernel_rfl) ?_))
    | (refine wpList_storeA rfl 52 (.tmp 3) (.tmp 8) rfl (w.heap.size + 1) Z rfl rfl 52 _ (heap_alloc2_new w _ (.cells (wv (List.replicate 8 0)) 52)) HSZ.out HOLD.out HONE.out ?_))
  intro w1 h1 hg1
  have hB1 : Below w.heap.size w w1 := grown_below (((Below.refl _ _).alloc (Nat.le_refl _) _).alloc (by simp) _) hg1 (Nat.le_succ _) (by simp; omega)
  have hO1 : BB w1 w.heap.size 29 (List.replicate 32 0) := (hg1.block w.heap.size (by simp; omega) (fun e => by injection e with e; omega)).trans (heap_alloc2_old w _ _)
  have hS1 : WB w1 (w.heap.size + 1) 52 hNums := by show _ = _; rw [h1, HZ.out]
  have HB1 := Lib.hid hB1
  have HO1 := Lib.hid hO1
  have HS1 := Lib.hid hS1
  clear h1 hg1 hB1 hO1 hS1 HSZ HONE HOLD HZ
  go_wp2_with fail
  refine (refPadded a cap l w1 ((HL.out.below HB1.out).mono HB1.out.size) hcap hc2 HN.out hn).mono ?_
  rintro e w2 ⟨v, rfl, ho, hb2⟩
  obtain ⟨ap, cp, rfl, hfm, hcp, hrd⟩ := ho.form
  have hcaps := ho.caps
  obtain ⟨M, hM⟩ : ∃ M, M = l ++ padB l.length := ⟨_, rfl⟩
  have hMl : M.length = 64 * (M.length / 64) := by
    have h := pad_mod l.length
    rw [hM, List.length_append, padB_len]; omega
  have hSH : sha l = outTo (stN M (M.length / 64)) 32 := by rw [hM]; rfl
  have hM0 : M ≠ [] := by rw [hM]; intro h; have := congrArg List.length h; rw [List.length_append, padB_len] at this; simp at this
  rw [← hM] at hrd hcaps hcp ⊢
  obtain ⟨q, hq⟩ : ∃ q, M.length / 64 = q := ⟨_, rfl⟩
  rw [hq] at hMl hSH
  have HSH := Lib.hid hSH
  have HMl := Lib.hid hMl
  obtain ⟨g, o, rfl, hgB, hcell⟩ : ∃ g o, ap = some ⟨g, o, none⟩ ∧ g < w2.heap.size ∧ ∀ j (h : j < M.length), w2.cell? ⟨g, o + j, none⟩ = some (bv M[j]) := by
    rcases hrd with h | h
    · exact absurd h hM0
    · exact h
  have HC := Lib.hid hcell
  have HGN : Hid (g ≠ w.heap.size + 1) := by
    rcases hfm with ⟨h1, _⟩ | ⟨g', h1, h2, _⟩
    · cases h1
    · injection h1 with h1; injection h1 with h1 _; show _ ≠ _; have := HS1.out.lt; omega
  have HB2 := Lib.hid (HB1.out.trans (hb2.mono HB1.out.size))
  have HO2 := Lib.hid (HO1.out.below hb2 HO1.out.lt)
  have HS2 := Lib.hid (HS1.out.below hb2 HS1.out.lt)
  clear hb2 ho hfm hrd hcell hM hSH hMl hq hM0 HO1 HS1 HB1
  rw [HMl.out] at hcp hcaps ⊢
  obtain ⟨hcq, hcm⟩ := hcaps
  unfold maxLen at hcp hcm hc2
  go_wp2_with fail
  go_loopw [5] (fun i wr => ∃ k : Nat, k ≤ q ∧ i = .int .i64 ((64 * k : Nat) : Int) ∧ BB wr w.heap.size 29 (List.replicate 32 0) ∧ WB wr (w.heap.size + 1) 52 (stN M k) ∧ Below w.heap.size w wr ∧ ∀ j (h : j < M.length), wr.cell? ⟨g, o + j, none⟩ = some (bv M[j])) (fun i _ => 64 * q - (intOf i).toNat)
  case atStart => exact ⟨0, Nat.zero_le _, rfl, HO2.out, HS2.out, HB2.out, HC.out⟩
  case round =>
    clear HO2 HS2 HB2 HC
    obtain ⟨k, hk, rfl, hO, hS, hB, hC⟩ := hrel
    have HO := Lib.hid hO
    have HS := Lib.hid hS
    have HB := Lib.hid hB
    have HC := Lib.hid hC
    clear hO hS hB hC
    by_cases hlt : k < q
    · obtain ⟨n, hn64⟩ : ∃ n, 64 * k = n := ⟨_, rfl⟩
      have HN64 := Lib.hid hn64
      have hnq : n + 64 ≤ 64 * q := by omega
      rw [hn64]
      clear hn64
      have f1 : decide ((n : Int) < ((64 * q : Nat) : Int)) = true := decide_eq_true (by omega)
      have hwn : IntKind.i64.wrap ((n : Int) + 64) = (n : Int) + 64 := by rw [IntKind.wrap_i64]; omega
      have hsl := slice_mid g o (64 * q) cp n hnq hcq
      have hst8 : (stN M k).length = 8 := stN_len M k
      obtain ⟨st, hst⟩ : ∃ st, stN M k = st := ⟨_, rfl⟩
      have HST := Lib.hid hst
      rw [hst] at HS hst8
      obtain ⟨B, hBk⟩ : ∃ B, (M.drop n).take 64 = B := ⟨_, rfl⟩
      have hBl : B.length = 64 := by rw [← hBk, List.length_take, List.length_drop, HMl.out]; omega
      have hnx : stN M (k + 1) = comp st (wordsOf B) := by rw [stN_next, hst, HN64.out, hBk]
      have HNX := Lib.hid hnx
      have hrB : ∀ W, Below wr.heap.size wr W → RdB W.heap.size W (some ⟨g, o + n, none⟩) B := fun W hW => by
        refine ⟨by rw [hBl]; unfold maxLen; omega, .inr ⟨g, o + n, rfl, ?_, fun j hj => ?_⟩⟩
        · have h1 := HC.out 0 (by rw [HMl.out]; omega)
          exact Nat.lt_of_lt_of_le (World.block_lt_of_cell? wr _ h1) hW.size
        · have hj2 : n + j < M.length := by rw [HMl.out]; omega
          have h1 := HC.out (n + j) hj2
          have h2 := World.block_lt_of_cell? wr _ h1
          have e : B[j] = M[n + j] := by simp [← hBk]
          rw [Nat.add_assoc, hW.cell (p := ⟨g, o + (n + j), none⟩) h2, h1, e]
      have cb := fun W (hW : Below wr.heap.size wr W) => refBlock st hst8 g (o + n) (cp - n) B W hBl (hrB W hW) (by omega) (by unfold maxLen; omega)
      rw [← hnx] at cb
      have hnl : (stN M (k + 1)).length = 8 := stN_len M _
      clear hst hBk hrB hnx
      obtain ⟨st', hst'⟩ : ∃ st', stN M (k + 1) = st' := ⟨_, rfl⟩
      rw [hst'] at cb hnl
      have HST' := Lib.hid hst'
      have HCB := Lib.hid cb
      have hsz8 : (Tryd.prog.info? 52).map (·.size) = some (wv st').size := by rw [wv_size, hnl]; kernel_rfl
      have hold8 : (wv st).size = (wv st').size := by rw [wv_size, wv_size, hst8, hnl]
      have hszL : (Tryd.prog.info? 52).map (·.size) = some (wv st).size := by rw [wv_size, hst8]; kernel_rfl
      have H8 := Lib.hid hsz8; have H8O := Lib.hid hold8; have H8L := Lib.hid hszL
      clear cb hst' hnl hst8 hsz8 hold8 hszL hcp hcm hc2
      go_wp2_with fail
      refine wp_region_held_drew (S := fun _ => True) (by kernel_rfl) trivial (fun hHeld => ?_)
      refine wpAnyH_take (i := 1) (v := .slice (some ⟨g, o, none⟩) (64 * q) cp) rfl (by kernel_rfl) (by kernel_rfl) (by kernel_rfl) (fun _ _ _ h => h) (Or.inl ⟨by rfl, fun w _ => by go_simp⟩) hHeld ?_
      simp only [Act.put, List.getElem_toArray, List.getElem_cons_zero, List.getElem_cons_succ, List.setIfInBounds_toArray, List.set_cons_zero, List.set_cons_succ]
      refine wpAnyH_take (i := 2) (v := .int .i64 (n : Int)) rfl (by kernel_rfl) (by kernel_rfl) (by kernel_rfl) (fun _ _ _ h => h) (Or.inl ⟨by rfl, fun w _ => by go_simp⟩) hHeld ?_
      simp only [Act.put, List.getElem_toArray, List.getElem_cons_zero, List.getElem_cons_succ, List.setIfInBounds_toArray, List.set_cons_zero, List.set_cons_succ]
      refine wpAnyH_take (i := 3) (v := .int .i64 (n : Int)) rfl (by kernel_rfl) (by kernel_rfl) (by kernel_rfl) (fun _ _ _ h => h) (Or.inl ⟨by rfl, fun w _ => by go_simp⟩) hHeld ?_
      simp only [Act.put, List.getElem_toArray, List.getElem_cons_zero, List.getElem_cons_succ, List.setIfInBounds_toArray, List.set_cons_zero, List.set_cons_succ]
      refine wpAnyH_take (i := 4) (v := .int .i64 ((n : Int) + 64)) rfl (by kernel_rfl) (by kernel_rfl) (by kernel_rfl) (fun _ _ _ h => h) (Or.inl ⟨by rfl, fun w _ => by go_simp⟩) hHeld ?_
      simp only [Act.put, List.getElem_toArray, List.getElem_cons_zero, List.getElem_cons_succ, List.setIfInBounds_toArray, List.set_cons_zero, List.set_cons_succ]
      refine wpAnyH_take (i := 5) (v := .slice (some ⟨g, o + n, none⟩) 64 (cp - n)) rfl (by kernel_rfl) (by kernel_rfl) (by kernel_rfl) (fun _ _ _ h => h) (Or.inl ⟨by rfl, fun w _ => by go_simp⟩) hHeld ?_
      simp only [Act.put, List.getElem_toArray, List.getElem_cons_zero, List.getElem_cons_succ, List.setIfInBounds_toArray, List.set_cons_zero, List.set_cons_succ]
      refine wpAnyH_ready (rs := [0]) (by kernel_rfl) (by simp) (AllReadyH.cons rfl (fun K hK => ?_) AllReadyH.nil)
      rw [if_pos (by rfl)]
      refine wp_load_row 52 (.tmp 3) rfl (w.heap.size + 1) rfl _ (wv st) (0, 0) _ HS.out Tryd.underlying52 rfl H8L.out ?_
      refine hK.out _ _ trivial (fun hHeld => ?_)
      clear hK K
      simp only [Act.put, List.getElem_toArray, List.getElem_cons_zero, List.getElem_cons_succ, List.setIfInBounds_toArray, List.set_cons_zero, List.set_cons_succ]
      refine wpAnyH_ready (rs := [6]) (by kernel_rfl) (by simp) (AllReadyH.cons rfl (fun K hK => ?_) AllReadyH.nil)
      go_simp
      refine (HCB.out _ ((Below.refl _ _).drew)).mono ?_
      rintro e w4 ⟨rfl, hb4⟩
      try go_wp2_with fail
      refine hK.out _ _ trivial (fun hHeld => ?_)
      clear hK K
      try simp only [Act.put, List.getElem_toArray, List.getElem_cons_zero, List.getElem_cons_succ, List.setIfInBounds_toArray, List.set_cons_zero, List.set_cons_succ]
      have hb4' : Below wr.heap.size wr w4 := ((Below.refl wr.heap.size wr).drew).trans hb4
      have HS4 := Lib.hid (HS.out.below hb4' HS.out.lt)
      refine wpAnyH_ready (rs := [7]) (by kernel_rfl) (by simp) (AllReadyH.cons rfl (fun K hK => ?_) AllReadyH.nil)
      rw [if_pos (by rfl)]
      refine wp_store_row 52 (.tmp 3) (.tmp 23) rfl (w.heap.size + 1) (wv st') rfl rfl 52 _ HS4.out H8.out H8O.out (wv_one _) ?_
      refine hK.out _ _ trivial (fun hHeld => ?_)
      clear hK K
      try simp only [Act.put, List.getElem_toArray, List.getElem_cons_zero, List.getElem_cons_succ, List.setIfInBounds_toArray, List.set_cons_zero, List.set_cons_succ]
      refine wpAnyH_done (by kernel_rfl) ?_ _
      have hSn : WB (w4.setRow (w.heap.size + 1) (wv st')) (w.heap.size + 1) 52 st' := WB.setRow HS4.out _
      have hOn : BB (w4.setRow (w.heap.size + 1) (wv st')) w.heap.size 29 (List.replicate 32 0) := (setRow_other w4 (w.heap.size + 1) w.heap.size _ (by omega)).trans (HO.out.below hb4' HO.out.lt)
      have hBn : Below w.heap.size w (w4.setRow (w.heap.size + 1) (wv st')) := below_setRow (HB.out.trans (hb4'.mono HB.out.size)) (Nat.le_succ _) _
      have hCn : ∀ j (h : j < M.length), (w4.setRow (w.heap.size + 1) (wv st')).cell? ⟨g, o + j, none⟩ = some (bv M[j]) := fun j hj => by
        have h1 := HC.out j hj
        have h2 := World.block_lt_of_cell? wr _ h1
        have h3 : w4.cell? ⟨g, o + j, none⟩ = some (bv M[j]) := (hb4'.cell (p := ⟨g, o + j, none⟩) h2).trans h1
        have hne : g ≠ w.heap.size + 1 := HGN.out
        exact (World.cell?_of_block (setRow_other w4 (w.heap.size + 1) g _ hne)).trans h3
      have HSn := Lib.hid hSn; have HOn := Lib.hid hOn; have HBn := Lib.hid hBn; have HCn := Lib.hid hCn
      clear hSn hOn hBn hCn HS4 hb4 hb4' HS HO HB HC HCB H8 H8O H8L
      generalize w4.setRow (w.heap.size + 1) (wv st') = w5 at *
      go_wp2_with fail
      go_roundw
      case rel => exact ⟨k + 1, by omega, by rw [show ((64 * (k + 1) : Nat) : Int) = (n : Int) + 64 from by have := HN64.out; omega], HOn.out, by rw [HST'.out]; exact HSn.out, HBn.out, HCn.out⟩
      case measure => simp [intOf]; omega
    · obtain rfl : k = q := by omega
      have hk8 : (stN M k).length = 8 := stN_len M k
      obtain ⟨st, hst⟩ : ∃ st, stN M k = st := ⟨_, rfl⟩
      rw [hst] at HS hk8 HSH
      have HST8 := Lib.hid hk8
      clear HC hst hk8
      have f1 : decide (((64 * k : Nat) : Int) < ((64 * k : Nat) : Int)) = false := decide_eq_false (by omega)
      obtain ⟨Z2, hZ2⟩ : ∃ Z2, Z2 = bvA (outTo st 0) := ⟨_, rfl⟩
      have hZ2' : Z2 = bvA (List.replicate 32 0) := by rw [hZ2]; rfl
      have HZ2 := Lib.hid hZ2
      have HBT : Hid (Tryd.prog.built 29 [] = some Z2) := by show _ = _; rw [hZ2']; kernel_rfl
      have HSZ2 : Hid ((Tryd.prog.info? 29).map (·.size) = some Z2.size) := by show _ = _; rw [hZ2']; kernel_rfl
      have HONE2 : Hid (Z2.all (·.oneCell') = true) := by show _ = _; rw [hZ2']; exact bvA_one _
      have HOLD2 : Hid ((bvA (List.replicate 32 0)).size = Z2.size) := by show _ = _; rw [hZ2']
      clear hZ2 hZ2'
      go_wp2_with (first
        | (refine wpList_built rfl 29 #[] rfl [] ?_ Z2 HBT.out ?_)
        | (refine wpList_storeA rfl 29 (.tmp 6) (.tmp 24) rfl wr.heap.size Z2 rfl rfl 29 (bvA (List.replicate 32 0)) (heap_alloc_new wr _) HSZ2.out HOLD2.out HONE2.out ?_))
      intro w6 h6 hg6
      have hB6 : Below wr.heap.size wr w6 := grown_below ((Below.refl _ _).alloc (Nat.le_refl _) _) hg6 (Nat.le_refl _) (by simp)
      have hD6 : BB w6 wr.heap.size 29 (outTo st 0) := by show _ = _; rw [h6, HZ2.out]
      have HB6 := Lib.hid (HB.out.trans (hB6.mono HB.out.size))
      have HO6 := Lib.hid (HO.out.below hB6 HO.out.lt)
      have HS6 := Lib.hid (HS.out.below hB6 HS.out.lt)
      have HD6 := Lib.hid hD6
      have HLE : Hid (w.heap.size + 1 < wr.heap.size) := HS.out.lt
      clear h6 hg6 hB6 hD6 HB HO HS HZ2 HBT HSZ2 HONE2 HOLD2
      generalize wr.heap.size = gD at *
      go_wp2_with fail
      go_loopw [7] (fun i w' => ∃ j : Nat, j ≤ 32 ∧ i = .int .i64 j ∧ BB w' gD 29 (outTo st j) ∧ WB w' (w.heap.size + 1) 52 st ∧ BB w' w.heap.size 29 (List.replicate 32 0) ∧ Below w.heap.size w w') (fun i _ => 32 - (intOf i).toNat)
      case atStart => exact ⟨0, by omega, rfl, HD6.out, HS6.out, HO6.out, HB6.out⟩
      case round =>
        clear HD6 HS6 HO6 HB6
        obtain ⟨j, hj, rfl, hd, hs, ho, hb⟩ := hrel
        have HD := Lib.hid hd
        have HSS := Lib.hid hs
        have HOO := Lib.hid ho
        have HBB := Lib.hid hb
        clear hd hs ho hb
        by_cases hlt32 : j < 32
        · have cf := HD.out.frozen j
          have ck := HD.out.cell j (by rw [outTo_len]; omega)
          have cr := HSS.out.cellD (j / 4) (by rw [HST8.out]; omega)
          have HX := Lib.hid (outTo_set st j)
          have HV := Lib.hid (bv_outB st j)
          generalize st.getD (j / 4) 0 = yk at cr HV
          generalize hx : (outTo st j)[j]'(by rw [outTo_len]; omega) = xk at ck
          clear hx
          go_wp2_with fail
          have he : 24 - 8 * (j % 4) = 8 * (3 - j % 4) := by omega
          go_roundw
          case rel =>
            rw [he, HV.out]
            have hn1 : w.heap.size + 1 ≠ gD := by have := HLE.out; omega
            have hn2 : w.heap.size ≠ gD := by have := HLE.out; omega
            refine ⟨j + 1, by omega, by go_num, ?_, (heap_setCell_other wr ⟨gD, j, none⟩ _ _ hn1).trans HSS.out, HOO.out.setO hn2 _ _, HBB.out.setCell (p := ⟨gD, j, none⟩) (by have := HLE.out; show w.heap.size ≤ gD; omega) _⟩
            rw [← HX.out]
            exact HD.out.set_ _ _
          case measure => simp [intOf]; omega
        · obtain rfl : j = 32 := by omega
          have hsz : (Tryd.prog.info? 29).map (·.size) = some (bvA (outTo st 32)).size := by rw [bvA_size, outTo_len]; kernel_rfl
          have hold : (bvA (List.replicate 32 0)).size = (bvA (outTo st 32)).size := by rw [bvA_size, bvA_size, outTo_len]; rfl
          go_wp2_with (first | (refine wpList_load_row rfl 29 (.tmp 6) rfl gD rfl _ (bvA (outTo st 32)) (0, 0) _ HD.out Tryd.underlying29 rfl hsz ?_) | (refine wpList_storeA rfl 29 (.tmp 2) (.tmp 41) rfl w.heap.size (bvA (outTo st 32)) rfl rfl _ _ HOO.out hsz hold (bvA_one _) ?_))
          intro w7 h7 hg7
          go_wp2_with fail
          refine bodyPost_ret (v := .agg (bvA (sha l))) ?_ rfl ⟨rfl, grown_below HBB.out hg7 (Nat.le_refl _) HBB.out.size⟩
          rw [HSH.out]
          exact results_cell_row rfl _ _ w.heap.size 29 _ (0, 0) _ rfl h7 Tryd.underlying29 rfl hsz
end Go.Proofs.YtmeoicfeiamkmaaDoor
