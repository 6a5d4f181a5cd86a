/-
  Package cipher: stream.
-/
import Derived.Test.YtcibbghggfklbaaDoorCb
namespace Go.Proofs.YtcibbghggfklbaaDoor
open Go.RowKit
set_option linter.unusedVariables false
set_option linter.unusedSimpArgs false

/-- The stream's bytes when m of them stand. -/
def cstTo (k n b : List UInt8) (m : Nat) : List UInt8 := (List.range b.length).map fun i => if i < m then b.getD i 0 ^^^ cbyte k n i else 0
theorem cstTo_len (k n b : List UInt8) (m : Nat) : (cstTo k n b m).length = b.length := by simp [cstTo]
theorem cstTo_zero (k n b : List UInt8) : cstTo k n b 0 = List.replicate b.length 0 := by
  apply List.ext_getElem
  · simp [cstTo]
  · intro i h1 h2
    rw [List.getElem_replicate]
    simp [cstTo]
theorem cstTo_set (k n b : List UInt8) (m : Nat) : (cstTo k n b m).set m (b.getD m 0 ^^^ cbyte k n m) = cstTo k n b (m + 1) := by
  apply List.ext_getElem
  · simp [cstTo]
  · intro i h1 h2
    rw [List.getElem_set]
    simp only [cstTo, List.getElem_map, List.getElem_range]
    by_cases e : m = i
    · subst e; rw [if_pos rfl, if_pos (by omega)]
    · rw [if_neg e]
      by_cases h : i < m
      · rw [if_pos h, if_pos (by omega)]
      · rw [if_neg h, if_neg (by omega)]
theorem cstTo_full (k n b : List UInt8) : cstTo k n b b.length = cstream k n b := by
  unfold cstTo cstream
  apply List.map_congr_left
  intro i hi
  rw [if_pos (by simpa using hi)]
theorem cbyte_eq (k n : List UInt8) (m q u : Nat) (hq : q = m % 64) (hu : u = 1 + m / 64) : cbyte k n m = (cblock k n u).getD q 0 := by subst hq; subst hu; rfl

/-- The block that stands when m bytes have been made. -/
def blkE (k n : List UInt8) (m : Nat) : List UInt8 := if m = 0 then List.replicate 64 0 else cblock k n (1 + (m - 1) / 64)
theorem blkE_len (k n : List UInt8) (m : Nat) : (blkE k n m).length = 64 := by
  unfold blkE; split
  · rw [List.length_replicate]
  · exact cblock_len _ _ _
theorem blkE_zero (k n : List UInt8) : blkE k n 0 = List.replicate 64 0 := rfl
theorem blkE_succ (k n : List UInt8) (m : Nat) : blkE k n (m + 1) = cblock k n (1 + m / 64) := by unfold blkE; rw [if_neg (by omega), Nat.add_sub_cancel]
theorem blkE_mid (k n : List UInt8) (m : Nat) (h : ¬ m % 64 = 0) : blkE k n m = cblock k n (1 + m / 64) := by
  unfold blkE
  rw [if_neg (by intro e; subst e; exact h rfl), show (m - 1) / 64 = m / 64 by omega]

/-- What the loop of stream keeps: bytes X, block Y. -/
structure SmI (w : World) (k n X Y : List UInt8) (q : Nat) (wr : World) : Prop where
  below : Below w.heap.size w wr
  key : BB wr w.heap.size 23 k
  nonce : BB wr (w.heap.size + 1) 25 n
  out : OwnB (w.heap.size + 1 + 1) wr (.slice (some ⟨w.heap.size + 1 + 1, 0, none⟩) q q) X
  blk : BB wr (w.heap.size + 1 + 1 + 1) 45 Y
theorem OwnB.setO {B : Nat} {w : World} {v : Value} {l : List UInt8} (h : OwnB B w v l) {g : Nat} (hne : v.ownBlock ≠ some g) (i : Nat) (x : Value) : OwnB B (w.setCell ⟨g, i, none⟩ x) v l := by
  refine ⟨h.1, ?_⟩
  rcases h.2 with h2 | ⟨g', cap, cur, hv, hg, hh, r⟩
  · exact .inl h2
  · refine .inr ⟨g', cap, cur, hv, hg, ?_, r⟩
    rw [heap_setCell_other _ _ _ _ (by intro e; apply hne; rw [hv, e]; rfl)]; exact hh
theorem OwnB.grownO {B : Nat} {w w' : World} {v : Value} {l : List UInt8} (h : OwnB B w v l) {g : Nat} (hg : w.grownBy w' (some g)) (hne : v.ownBlock ≠ some g) : OwnB B w' v l := by
  refine ⟨h.1, ?_⟩
  rcases h.2 with h2 | ⟨g', cap, cur, hv, hg', hh, r⟩
  · exact .inl h2
  · refine .inr ⟨g', cap, cur, hv, hg', ?_, r⟩
    rw [hg.block g' (Array.getElem?_eq_some_iff.1 hh).1 (by intro e; apply hne; rw [hv]; injection e with e; rw [e]; rfl)]; exact hh
theorem SmI.start (w : World) (k n : List UInt8) (q : Nat) (hq : q ≤ 65536) : SmI w k n (List.replicate q 0) (List.replicate 64 0) q ((((w.alloc (.cells (bvA k) 23)).alloc (.cells (bvA n) 25)).alloc (.cells (madeCells #[.int .u8 0] q) 5)).alloc (.cells (bvA (List.replicate 64 0)) 45)) := by
  refine ⟨((((Below.refl _ _).alloc (Nat.le_refl _) _).alloc (by simp) _).alloc (by rw [alloc_size, alloc_size]; omega) _).alloc (by rw [alloc_size, alloc_size, alloc_size]; omega) _, (((BB.new w _ k).alloc _).alloc _).alloc _, ?_, ?_, ?_⟩
  · have h := ((BB.new (w.alloc (.cells (bvA k) 23)) 25 n).alloc (.cells (madeCells #[.int .u8 0] q) 5)).alloc (.cells (bvA (List.replicate 64 0)) 45)
    rw [alloc_size] at h
    exact h
  · have h := (OwnB.zeros (B := w.heap.size + 1 + 1) (w := (w.alloc (.cells (bvA k) 23)).alloc (.cells (bvA n) 25)) q (by omega) (by rw [alloc_size, alloc_size]; exact Nat.le_refl _)).alloc (.cells (bvA (List.replicate 64 0)) 45)
    rw [alloc_size, alloc_size] at h
    exact h
  · have h := BB.new (((w.alloc (.cells (bvA k) 23)).alloc (.cells (bvA n) 25)).alloc (.cells (madeCells #[.int .u8 0] q) 5)) 45 (List.replicate 64 0)
    rw [alloc_size, alloc_size, alloc_size] at h
    exact h
/-- A call. -/
theorem SmI.call {w : World} {k n X Y : List UInt8} {q : Nat} {wr w' : World} (h : SmI w k n X Y q wr) (hb : Below wr.heap.size wr w') : SmI w k n X Y q w' :=
  ⟨h.below.trans (hb.mono h.below.size), h.key.below hb h.key.lt, h.nonce.below hb h.nonce.lt, h.out.below hb, h.blk.below hb h.blk.lt⟩
/-- Another block. -/
theorem SmI.block {w : World} {k n X Y Y' : List UInt8} {q : Nat} {wr w' : World} (h : SmI w k n X Y q wr) (hg : wr.grownBy w' (some (w.heap.size + 1 + 1 + 1))) (hn : BB w' (w.heap.size + 1 + 1 + 1) 45 Y') : SmI w k n X Y' q w' :=
  ⟨grown_below h.below hg (by omega) h.below.size, h.key.grown hg (by omega), h.nonce.grown hg (by omega), h.out.grownO hg (by show some (w.heap.size + 1 + 1) ≠ some (w.heap.size + 1 + 1 + 1); intro e; injection e with e; omega), hn⟩
/-- A byte. -/
theorem SmI.put {w : World} {k n X Y : List UInt8} {wr : World} (h : SmI w k n X Y X.length wr) (j : Nat) (c : UInt8) : SmI w k n (X.set j c) Y X.length (wr.setCell ⟨w.heap.size + 1 + 1, j, none⟩ (bv c)) :=
  ⟨h.below.setCell (by show w.heap.size ≤ w.heap.size + 1 + 1; omega) _, h.key.setO (by omega) _ _, h.nonce.setO (by omega) _ _, h.out.stored j c, h.blk.setO (by omega) _ _⟩
theorem SmI.drew {w : World} {k n X Y : List UInt8} {q : Nat} {wr : World} (h : SmI w k n X Y q wr) : SmI w k n X Y q wr.drew := ⟨h.below.drew, h.key.drew, h.nonce.drew, h.out.drew, h.blk.drew⟩

set_option maxRecDepth 100000 in
set_option maxHeartbeats 2000000 in
theorem stream_any (k n l : List UInt8) (hk : k.length = 32) (hn : n.length = 12) (a : Option Addr) (cap : Nat) (w : World) (hl : RdB w.heap.size w a l) (hcap : l.length ≤ cap) (hc2 : cap ≤ maxLen) (h16 : l.length ≤ 65536) :
    Calls Tryd.prog 24 #[.agg (bvA k), .agg (bvA n), .slice a l.length cap] w fun e w' => ∃ v, e = .returned v ∧ OwnB (w.heap.size + 1 + 1) w' v (cstream k n l) ∧ Below w.heap.size w w' := by
  obtain ⟨Z, hZ⟩ : ∃ Z, Z = bvA (List.replicate 64 0) := ⟨_, rfl⟩
  have hz := fun W : World => (by rw [hZ]; kernel_rfl : (zeroValue 45).run Tryd.prog W = .ok (.agg Z) W)
  have hmk := fun W => run_makeZ l.length (by omega) W
  have HK := Lib.hid hk
  have HN := Lib.hid hn
  clear hk hn
  have HI0 : Hid (SmI w k n (cstTo k n l 0) (blkE k n 0) l.length ((((w.alloc (.cells (bvA k) 23)).alloc (.cells (bvA n) 25)).alloc (.cells (madeCells #[.int .u8 0] l.length) 5)).alloc (.cells Z 45))) := Lib.hid (by rw [hZ, cstTo_zero, blkE_zero]; exact SmI.start w k n l.length h16)
  clear hZ
  have HL := Lib.hid hl
  have HXL := Lib.hid (cstTo_len k n l)
  have HF := Lib.hid (cstTo_full k n l)
  have HSET := Lib.hid (cstTo_set k n l)
  obtain ⟨q, hq⟩ : ∃ q, l.length = q := ⟨_, rfl⟩
  rw [hq] at HI0 HXL HF hcap h16 hmk ⊢
  have HQ := Lib.hid hq
  clear hl hq
  have i16 : (q : Int) ≤ 65536 := by omega
  go_enter Tryd.func24, Tryd.ntmps24
  go_wp2_with fail
  generalize (((w.alloc (.cells (bvA k) 23)).alloc (.cells (bvA n) 25)).alloc (.cells (madeCells #[.int .u8 0] q) 5)).alloc (.cells Z 45) = w1 at *
  go_loopw [15] (fun i wr => ∃ m : Nat, m ≤ q ∧ i = .int .i64 m ∧ SmI w k n (cstTo k n l m) (blkE k n m) q wr) (fun i _ => q - (intOf i).toNat)
  case atStart => exact ⟨0, by omega, rfl, HI0.out⟩
  case round =>
    clear HI0
    obtain ⟨m, hm, rfl, hi⟩ := hrel
    have HI := Lib.hid hi
    clear hi
    by_cases hlt : m < q
    · have im : (m : Int) < (q : Int) := by omega
      obtain ⟨b, o, rfl, hbB, hcell⟩ := HL.out.at_ (by rw [HQ.out]; omega)
      have HCL : Hid (wr.cell? ⟨b, o + m, none⟩ = some (bv (l.getD m 0))) := by
        show _ = _
        rw [HI.out.below.cell (p := ⟨b, o + m, none⟩) hbB, hcell m (by rw [HQ.out]; exact hlt)]
        rw [List.getD, List.getElem?_eq_getElem (by rw [HQ.out]; exact hlt)]; rfl
      clear hcell
      by_cases hmod : m % 64 = 0
      · have ht : (m : Int).tmod 64 = 0 := by rw [Int.tmod_eq_emod_of_nonneg (by omega)]; omega
        go_wp2_with (first
          | (refine wpList_load_row rfl 23 (.tmp 3) rfl w.heap.size rfl _ (bvA k) (0, 0) _ HI.out.key Tryd.underlying23 rfl (by rw [bvA_size, HK.out]; kernel_rfl) ?_)
          | (refine wpList_load_row rfl 25 (.tmp 4) rfl (w.heap.size + 1) rfl _ (bvA n) (0, 0) _ HI.out.nonce Tryd.underlying25 rfl (by rw [bvA_size, HN.out]; kernel_rfl) ?_))
        -- MADE
        rw [show (1 + (m : Int) / 64) = ((1 + m / 64 : Nat) : Int) by omega]
        refine (start_any k n (1 + m / 64) HK.out HN.out (by omega) wr).mono ?_
        rintro e w2 ⟨rfl, hb2⟩
        have HI2 := Lib.hid (HI.out.call hb2)
        have hck2 := (hb2.cell (p := ⟨b, o + m, none⟩) (Nat.lt_of_lt_of_le hbB HI.out.below.size)).trans HCL.out
        go_wp2_with fail
        refine (block_any (cstart k n (1 + m / 64)) (cstart_len _ _ _) w2).mono ?_
        rintro e w3 ⟨rfl, hb3⟩
        have HI3 := Lib.hid (HI2.out.call hb3)
        have hck3 := (hb3.cell (p := ⟨b, o + m, none⟩) (Nat.lt_of_lt_of_le hbB HI2.out.below.size)).trans hck2
        rw [show coutTo (crounds (cstart k n (1 + m / 64)) 10) (cstart k n (1 + m / 64)) 16 = cblock k n (1 + m / 64) from rfl]
        have hsz : (Tryd.prog.info? 45).map (·.size) = some (bvA (cblock k n (1 + m / 64))).size := by rw [bvA_size, cblock_len]; kernel_rfl
        have HOL : Hid ((bvA (blkE k n m)).size = (bvA (cblock k n (1 + m / 64))).size) := Lib.hid (by rw [bvA_size, bvA_size, blkE_len, cblock_len])
        clear hb2 hb3 HI HI2 hck2
        go_wp2_with (refine wpList_storeA rfl 45 (.tmp 8) (.tmp 28) rfl (w.heap.size + 1 + 1 + 1) (bvA (cblock k n (1 + m / 64))) rfl rfl _ _ HI3.out.blk hsz HOL.out (bvA_one _) ?_)
        intro w4 h4 hg4
        have HJ := Lib.hid (HI3.out.block hg4 h4)
        have HCJ : Hid (w4.cell? ⟨b, o + m, none⟩ = some (bv (l.getD m 0))) := Lib.hid ((World.cell?_of_block (w := w3) (hg4.block b (Nat.lt_of_lt_of_le hbB HI3.out.below.size) (by intro e; injection e with e; omega))).trans hck3)
        clear h4 hg4 HI3 hck3 hsz ht
        obtain ⟨Y, hY⟩ : ∃ Y, cblock k n (1 + m / 64) = Y := ⟨_, rfl⟩
        have HYL : Hid (Y.length = 64) := Lib.hid (by rw [← hY, cblock_len])
        obtain ⟨r, hr⟩ : ∃ r, r = m % 64 := ⟨_, rfl⟩
        have HCB : Hid (cbyte k n m = Y.getD r 0) := Lib.hid (by rw [cbyte_eq k n m r (1 + m / 64) hr rfl, hY])
        have HBE : Hid (blkE k n (m + 1) = Y) := Lib.hid (by rw [blkE_succ, hY])
        rw [hY] at HJ
        have tr : (m : Int).tmod 64 = (r : Int) := by rw [Int.tmod_eq_emod_of_nonneg (by omega)]; omega
        have r64 : (r : Int) < 64 := by omega
        have HR64 : Hid (r < 64) := Lib.hid (by omega)
        clear hY hr
        have HX := Lib.hid (HSET.out m)
        rw [HCB.out] at HX
        have cl : w4.cell? ⟨b, o + m, none⟩ = some (.int .u8 ((l.getD m 0).toNat : Int)) := HCJ.out
        have cb : w4.cell? ⟨w.heap.size + 1 + 1 + 1, r, none⟩ = some (.int .u8 ((Y.getD r 0).toNat : Int)) := by
          rw [HJ.out.blk.cell r (by rw [HYL.out]; exact HR64.out), List.getD, List.getElem?_eq_getElem (by rw [HYL.out]; exact HR64.out)]; rfl
        have co := HJ.out.out.cellAt m (by rw [HXL.out]; exact hlt)
        have fo := HJ.out.out.frozenAt m
        have HXM := Lib.hid (HXL.out m)
        generalize (cstTo k n l m)[m]'(by rw [HXL.out]; exact hlt) = z at co
        generalize l.getD m 0 = x at *
        generalize Y.getD r 0 = y at *
        have hx := bv_xor x y
        clear HCB HCJ HCL hmod
        go_wp2_with fail
        go_still_tail 12, (by kernel_rfl)
        change wpList _ _ _ _ _ w4.drew
        go_wp2_with fail
        go_roundw
        case rel =>
          refine ⟨m + 1, by omega, by go_num, ?_⟩
          rw [HBE.out, ← HX.out]
          have h := HJ.out
          rw [← HXM.out] at h ⊢
          exact (h.put m (x ^^^ y)).drew
        case measure => simp [intOf]; omega
      · have ht : (m : Int).tmod 64 ≠ 0 := by rw [Int.tmod_eq_emod_of_nonneg (by omega)]; omega
        have HJ := HI
        rw [blkE_mid k n m hmod] at HJ
        have HCJ := HCL
        clear HI
        obtain ⟨Y, hY⟩ : ∃ Y, cblock k n (1 + m / 64) = Y := ⟨_, rfl⟩
        have HYL : Hid (Y.length = 64) := Lib.hid (by rw [← hY, cblock_len])
        obtain ⟨r, hr⟩ : ∃ r, r = m % 64 := ⟨_, rfl⟩
        have HCB : Hid (cbyte k n m = Y.getD r 0) := Lib.hid (by rw [cbyte_eq k n m r (1 + m / 64) hr rfl, hY])
        have HBE : Hid (blkE k n (m + 1) = Y) := Lib.hid (by rw [blkE_succ, hY])
        rw [hY] at HJ
        have tr : (m : Int).tmod 64 = (r : Int) := by rw [Int.tmod_eq_emod_of_nonneg (by omega)]; omega
        have r64 : (r : Int) < 64 := by omega
        have HR64 : Hid (r < 64) := Lib.hid (by omega)
        clear hY hr
        have HX := Lib.hid (HSET.out m)
        rw [HCB.out] at HX
        have cl : wr.cell? ⟨b, o + m, none⟩ = some (.int .u8 ((l.getD m 0).toNat : Int)) := HCJ.out
        have cb : wr.cell? ⟨w.heap.size + 1 + 1 + 1, r, none⟩ = some (.int .u8 ((Y.getD r 0).toNat : Int)) := by
          rw [HJ.out.blk.cell r (by rw [HYL.out]; exact HR64.out), List.getD, List.getElem?_eq_getElem (by rw [HYL.out]; exact HR64.out)]; rfl
        have co := HJ.out.out.cellAt m (by rw [HXL.out]; exact hlt)
        have fo := HJ.out.out.frozenAt m
        have HXM := Lib.hid (HXL.out m)
        generalize (cstTo k n l m)[m]'(by rw [HXL.out]; exact hlt) = z at co
        generalize l.getD m 0 = x at *
        generalize Y.getD r 0 = y at *
        have hx := bv_xor x y
        clear HCB HCJ HCL hmod
        go_wp2_with fail
        go_still_tail 12, (by kernel_rfl)
        change wpList _ _ _ _ _ wr.drew
        go_wp2_with fail
        go_roundw
        case rel =>
          refine ⟨m + 1, by omega, by go_num, ?_⟩
          rw [HBE.out, ← HX.out]
          have h := HJ.out
          rw [← HXM.out] at h ⊢
          exact (h.put m (x ^^^ y)).drew
        case measure => simp [intOf]; omega
    · obtain rfl : m = q := by omega
      rw [HF.out] at HI
      go_wp2_with fail
      go_ret
      exact ⟨_, rfl, by have h := HI.out.out; exact h, HI.out.below⟩
end Go.Proofs.YtcibbghggfklbaaDoor
