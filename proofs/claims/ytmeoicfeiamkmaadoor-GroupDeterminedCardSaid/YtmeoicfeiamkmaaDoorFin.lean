/-
  The hasher of package digest: newHasher and end; SHA-256 as a plain function of bytes.
-/
import Derived.Test.YtmeoicfeiamkmaaDoorHsh
import Derived.Laws.Tables
namespace Go.Proofs.YtmeoicfeiamkmaaDoor
open Go.RowKit

/-- An array of bytes. -/
def bvA (l : List UInt8) : Array Value := (l.map bv).toArray
/-- Block g is just the bytes l. -/
def BB (w : World) (g : Nat) (T : TypeId) (l : List UInt8) : Prop := w.heap[g]? = some (.cells (bvA l) T (0, 0))
theorem bvA_size (l : List UInt8) : (bvA l).size = l.length := by simp [bvA]
theorem bvA_get (l : List UInt8) (i : Nat) (h : i < l.length) : (bvA l)[i]? = some (bv l[i]) := by simp [bvA, h]
theorem bvA_set (l : List UInt8) (i : Nat) (c : UInt8) : (bvA l).setIfInBounds i (bv c) = bvA (l.set i c) := by
  apply Array.ext'
  simp [bvA, List.map_set]
theorem bvA_one (l : List UInt8) : (bvA l).all (·.oneCell') = true := by
  rw [Array.all_eq_true_iff_forall_mem]; intro v hv
  obtain ⟨x, _, rfl⟩ := by simpa [bvA] using hv
  rfl
theorem BB.lt {w : World} {g : Nat} {T : TypeId} {l : List UInt8} (h : BB w g T l) : g < w.heap.size := (Array.getElem?_eq_some_iff.1 h).1
theorem BB.cell {w : World} {g : Nat} {T : TypeId} {l : List UInt8} (h : BB w g T l) (i : Nat) (hi : i < l.length) : w.cell? ⟨g, i, none⟩ = some (bv l[i]) := by
  rw [cell_of_row w g i _ T (0, 0) h, bvA_get l i hi]
theorem BB.frozen {w : World} {g : Nat} {T : TypeId} {l : List UInt8} (h : BB w g T l) (i : Nat) : w.frozen? ⟨g, i, none⟩ = false := frozen_of_row w g i _ T h
theorem BB.drew {w : World} {g : Nat} {T : TypeId} {l : List UInt8} (h : BB w g T l) : BB w.drew g T l := h
theorem BB.drewN {w : World} {g : Nat} {T : TypeId} {l : List UInt8} (h : BB w g T l) (n : Nat) : BB (w.drewN n) g T l := h
theorem BB.set_ {w : World} {g : Nat} {T : TypeId} {l : List UInt8} (h : BB w g T l) (i : Nat) (c : UInt8) : BB (w.setCell ⟨g, i, none⟩ (bv c)) g T (l.set i c) := by
  unfold BB; rw [heap_setCell_same w g i _ T _ h, bvA_set]
theorem BB.setO {w : World} {g : Nat} {T : TypeId} {l : List UInt8} (h : BB w g T l) {g' : Nat} (hne : g ≠ g') (i : Nat) (v : Value) : BB (w.setCell ⟨g', i, none⟩ v) g T l := (heap_setCell_other w ⟨g', i, none⟩ g v hne).trans h
theorem BB.new (w : World) (T : TypeId) (l : List UInt8) : BB (w.alloc (.cells (bvA l) T)) w.heap.size T l := heap_alloc_new w _
theorem BB.alloc {w : World} {g : Nat} {T : TypeId} {l : List UInt8} (h : BB w g T l) (o : Obj) : BB (w.alloc o) g T l := (Below.heap_alloc w o g h.lt).trans h
theorem BB.grown {w w' : World} {g R : Nat} {T : TypeId} {l : List UInt8} (h : BB w g T l) (hg : w.grownBy w' (some R)) (hne : g ≠ R) : BB w' g T l := (hg.block g h.lt (fun e => hne (by injection e))).trans h
theorem BB.below {B : Nat} {w w' : World} {g : Nat} {T : TypeId} {l : List UInt8} (h : BB w g T l) (hb : Below B w w') (hg : g < B) : BB w' g T l := (hb.block g hg).trans h
theorem BB.rd {w : World} {R g : Nat} {T : TypeId} {l : List UInt8} (h : BB w g T l) (hne : g ≠ R) (hl : l.length ≤ maxLen) (n : Nat) : RdX R w (some ⟨g, 0, none⟩) (l.take n) := by
  refine ⟨by rw [List.length_take]; omega, .inr ⟨g, 0, rfl, h.lt, hne, fun j hj => ?_⟩⟩
  rw [List.length_take] at hj
  rw [Nat.zero_add, h.cell j (by omega), List.getElem_take]

theorem HM.below {B : Nat} {w w' : World} {R : Nat} {m : List UInt8} (h : HM w R m) (hb : Below B w w') (hR : R < B) : HM w' R m := by
  obtain ⟨part, hf, hp⟩ := h
  exact ⟨part, hf.below hb hR, hp⟩
/-- Byte i of the number of bits of n bytes. -/
def szB (n i : Nat) : UInt8 := UInt8.ofNat (8 * n / 2 ^ (8 * (7 - i)))
theorem bv_szB (len k : Nat) : Value.int .u8 (8 * (len : Int) / 2 ^ (8 * (7 - k)) % 256) = bv (szB len k) := by
  unfold bv szB
  rw [UInt8.toNat_ofNat']
  simp
/-- The padding's array when k bytes of the number of bits, from place n on, have been written. -/
def padA (n k len : Nat) : List UInt8 := (List.range 72).map fun j => if j = 0 then 128 else if n ≤ j ∧ j < n + k then szB len (j - n) else 0
theorem padA_len (n k len : Nat) : (padA n k len).length = 72 := by simp [padA]
theorem padA_set (n k len : Nat) (hn : 1 ≤ n) : (padA n k len).set (n + k) (szB len k) = padA n (k + 1) len := by
  apply List.ext_getElem
  · simp [padA]
  · intro i h1 h2
    rw [List.getElem_set]
    simp only [padA, List.getElem_map, List.getElem_range]
    by_cases e : n + k = i
    · subst e; rw [if_pos rfl, if_neg (by omega), if_pos (by omega)]; congr 1; omega
    · rw [if_neg e]
      by_cases h0 : i = 0
      · rw [if_pos h0, if_pos h0]
      · rw [if_neg h0, if_neg h0]
        by_cases h : n ≤ i ∧ i < n + k
        · rw [if_pos h, if_pos (by omega)]
        · rw [if_neg h, if_neg (by omega)]
theorem padA_zero (n len : Nat) : (bvA (List.replicate 72 0)).setIfInBounds 0 (.int .u8 128) = bvA (padA n 0 len) := by
  have h : (Value.int .u8 128) = bv 128 := rfl
  rw [h, bvA_set]
  congr 1
  apply List.ext_getElem
  · simp [padA]
  · intro i h1 h2
    rw [List.getElem_set]
    simp only [padA, List.getElem_map, List.getElem_range, List.getElem_replicate]
    by_cases e : 0 = i
    · subst e; rfl
    · rw [if_neg e, if_neg (by omega), if_neg (by omega)]
/-- How many bytes come before the number of bits. -/
def padN (len : Nat) : Nat := 64 - (len % 64 + 8) % 64
/-- What follows the bytes. -/
def padB (len : Nat) : List UInt8 := (padA (padN len) 8 len).take (padN len + 8)
theorem padN_bd (len : Nat) : 1 ≤ padN len ∧ padN len ≤ 64 := by unfold padN; omega
theorem padB_len (len : Nat) : (padB len).length = padN len + 8 := by
  have := padN_bd len
  unfold padB; rw [List.length_take, padA_len]; omega
theorem pad_mod (len : Nat) : (len + (padN len + 8)) % 64 = 0 := by unfold padN; omega
/-- Byte j of a state. -/
def outB (st : List Nat) (j : Nat) : UInt8 := UInt8.ofNat (st.getD (j / 4) 0 / 2 ^ (8 * (3 - j % 4)))
theorem bv_outB (st : List Nat) (k : Nat) : Value.int .u8 (((st.getD (k / 4) 0 : Nat) : Int) / 2 ^ (8 * (3 - k % 4)) % 256) = bv (outB st k) := by
  unfold bv outB
  rw [UInt8.toNat_ofNat']
  simp
def outTo (st : List Nat) (k : Nat) : List UInt8 := (List.range 32).map fun j => if j < k then outB st j else 0
theorem outTo_len (st : List Nat) (k : Nat) : (outTo st k).length = 32 := by simp [outTo]
theorem outTo_set (st : List Nat) (k : Nat) : (outTo st k).set k (outB st k) = outTo st (k + 1) := by
  apply List.ext_getElem
  · simp [outTo]
  · intro i h1 h2
    rw [List.getElem_set]
    simp only [outTo, List.getElem_map, List.getElem_range]
    by_cases e : k = i
    · subst e; rw [if_pos rfl, if_pos (by omega)]
    · rw [if_neg e]
      by_cases h : i < k
      · rw [if_pos h, if_pos (by omega)]
      · rw [if_neg h, if_neg (by omega)]
/-- The state behind whole blocks. -/
def stOf (m : List UInt8) : List Nat := stN m (m.length / 64)
/-- SHA-256. -/
def sha (m : List UInt8) : List UInt8 := outTo (stOf (m ++ padB m.length)) 32
theorem sha_len (m : List UInt8) : (sha m).length = 32 := outTo_len _ _

theorem grown_setNew {R g : Nat} {w w2 : World} (h : w.grownBy w2 (some R)) (hg : w.heap.size ≤ g) (i : Nat) (v : Value) : w.grownBy (w2.setCell ⟨g, i, none⟩ v) (some R) :=
  ⟨h.os, h.tape, h.output, by simpa using h.size, fun k hk hn => by rw [heap_setCell_other _ _ _ _ (by show k ≠ g; omega)]; exact h.block k hk hn⟩
theorem grown_rowNew {R g : Nat} {w w2 w3 : World} (h : w.grownBy w2 (some R)) (k : w2.grownBy w3 (some g)) (hg : w.heap.size ≤ g) : w.grownBy w3 (some R) :=
  ⟨k.os.trans h.os, k.tape.trans h.tape, k.output.trans h.output, Nat.le_trans h.size k.size, fun i hi hn => by rw [k.block i (Nat.lt_of_lt_of_le hi h.size) (fun e => by injection e with e; omega)]; exact h.block i hi hn⟩
/-- padding[:n + 8]. -/
theorem slice_pad (g n : Nat) (h : n ≤ 64) (W : World) : (Instr.sliceAt 70 (.pointer (some ⟨g, 0, none⟩)) none (some (.int .i64 ((n : Int) + 8))) none).run Tryd.prog W = .ok (.slice (some ⟨g, 0, none⟩) (n + 8) 72) W := by
  have h1 : (Instr.sliceAt 70 (.pointer (some ⟨g, 0, none⟩)) none (some (.int .i64 ((n : Int) + 8))) none).run Tryd.prog W = _ := run_sliceAt_array_h (P := Tryd.prog) W 70 ⟨g, 0, none⟩ (by kernel_rfl) .i64 ((n : Int) + 8) (by omega) (by show (n : Int) + 8 ≤ ((72 : Nat) : Int); omega)
  rw [h1]
  have hz : (sizeOf (Tryd.prog.elem 70)).run Tryd.prog W = .ok 1 W := by kernel_rfl
  have hz2 : Tryd.prog.arrayLen 70 = 72 := by kernel_rfl
  rw [hz, hz2]
  have e : ((n : Int) + 8).toNat = n + 8 := by omega
  simp [Result.andThen, slicedAt, e, Addr.add]
/-- A composite literal whose value is known. -/
theorem wpList_built {P : Program} {w : World} {ops : Array Oper} {rest : List Oper} {o : Oper} {a : Act} {Q : Exit → Act → World → Prop} (hg : o.guard = none) (t : TypeId) (parts : Array (Nat × Operand)) (ho : o.op = .build t parts)
    (vals : List (Nat × Value)) (hv : (parts.map fun (i, x) => (i, a.eval x)).toList = vals) (cells : Array Value) (hc : P.built t vals = some cells) (h : wpList P ops Q rest (a.put o.dst (.agg cells)) w) : wpList P ops Q (o :: rest) a w := by
  refine wpList_build hg t parts ho ?_ ?_
  · rw [hv, hc]; rfl
  · rw [hv, hc]; exact h

/-- A value stored into a whole block; the world behind it gets a name of its own. -/
theorem wpList_storeA {P : Program} {w : World} {ops : Array Oper} {rest : List Oper} {o : Oper} {a : Act} {Q : Exit → Act → World → Prop} (hgd : o.guard = none) (ty : TypeId) (x y : Operand) (ho : o.op = .store ty x y)
    (g : Nat) (cells : Array Value) (hx : a.eval x = .pointer (some ⟨g, 0, none⟩)) (hy : a.eval y = .agg cells)
    (t : TypeId) (old : Array Value) (hg : w.heap[g]? = some (.cells old t (0, 0))) (hi : (P.info? ty).map (·.size) = some cells.size)
    (hold : old.size = cells.size) (h1 : cells.all (·.oneCell') = true)
    (h : ∀ w', w'.heap[g]? = some (.cells cells t (0, 0)) → w.grownBy w' (some g) → wpList P ops Q rest (a.put o.dst undef) w') : wpList P ops Q (o :: rest) a w :=
  wpList_store_row hgd ty x y ho g cells hx hy t old hg hi hold h1 (h _ (setRow_heap w g _ _ t _ hg) ⟨rfl, rfl, rfl, by simp [World.setRow], fun k hk hn => setRow_other w g k _ (fun e => hn (by rw [e]))⟩)

/-- The cells of a new hasher. -/
def hash0 : Array Value := ((wv hNums).toList ++ ((List.replicate 64 (0 : UInt8)).map bv ++ [Value.int .i64 0, Value.int .u64 0])).toArray
theorem hash0_one : hash0.all (·.oneCell') = true := by kernel_rfl
theorem newHasher_any (w : World) (hT : Tab w) : Calls Tryd.prog 32 #[] w fun e w' => e = .returned (.agg hash0) ∧ Below w.heap.size w w' := by
  obtain ⟨Z, hZ⟩ : ∃ Z, Z = hash0 := ⟨_, rfl⟩
  have hbt : Tryd.prog.built 55 [(0, .agg (wv hNums))] = some Z := by rw [hZ]; kernel_rfl
  have HBT := Lib.hid hbt
  obtain ⟨Z0, hZ0⟩ : ∃ Z0, Z0 = ((List.replicate 8 (Value.int .u32 0)) ++ ((List.replicate 64 (0 : UInt8)).map bv ++ [Value.int .i64 0, Value.int .u64 0])).toArray := ⟨_, rfl⟩
  have hz := fun W : World => (by rw [hZ0]; kernel_rfl : (zeroValue 55).run Tryd.prog W = .ok (.agg Z0) W)
  have HZP : Hid (Z0.size = Z.size) := by show _ = _; rw [hZ, hZ0]; decide
  have HSZ : Hid ((Tryd.prog.info? 55).map (·.size) = some Z.size) := by show _ = _; rw [hZ]; kernel_rfl
  have HONE : Hid (Z.all (·.oneCell') = true) := by show _ = _; rw [hZ]; exact hash0_one
  have hsz8 : (Tryd.prog.info? 52).map (·.size) = some (wv hNums).toList.length := by kernel_rfl
  have HT := Lib.hid (hT.below ((Below.refl w.heap.size w).alloc (Nat.le_refl _) (.cells Z0 55)) hT.lt).2
  have HSZ8 := Lib.hid hsz8
  have HU8 := Lib.hid Tryd.underlying52
  have HZ := Lib.hid hZ
  clear hT hZ hbt hZ0 hsz8
  have hud : Tryd.prog.underlying 55 = _ := Tryd.underlying55
  have HUD := Lib.hid hud
  clear hud
  go_enter Tryd.func32, Tryd.ntmps32
  go_wp2_with (first | (refine wpList_load_mid rfl 52 (.global 0) rfl 0 0 rfl (wv hNums).toList _ HT.out HU8.out rfl HSZ8.out ?_) | (refine wpList_built rfl 55 #[(0, .tmp 1)] rfl [(0, .agg (wv hNums))] ?_ Z HBT.out ?_) | (refine wpList_storeA rfl 55 (.tmp 0) (.tmp 2) rfl w.heap.size Z rfl rfl 55 _ (heap_alloc_new w _) HSZ.out HZP.out HONE.out ?_))
  intro w4 h4 hg4
  go_wp2_with fail
  have hB := grown_below ((Below.refl w.heap.size w).alloc (Nat.le_refl _) _) hg4 (Nat.le_refl _) (by simp)
  refine bodyPost_ret (v := .agg hash0) ?_ rfl ⟨rfl, hB⟩
  rw [HZ.out] at h4 HSZ
  exact results_cell_row rfl _ _ w.heap.size 55 _ (0, 0) _ rfl h4 HUD.out rfl HSZ.out

set_option maxRecDepth 100000 in
set_option maxHeartbeats 1600000 in
theorem end_any (R : Nat) (m : List UInt8) (w : World) (hT : Tab w) (hR : 4 ≤ R) (h : HM w R m) (hn : m.length ≤ 1152921504606846000) :
    Calls Tryd.prog 34 #[.pointer (some ⟨R, 0, none⟩)] w fun e w' => e = .returned (.agg (bvA (sha m))) ∧ w.grownBy w' (some R) := by
  have HT := Lib.hid hT
  have HH := Lib.hid h
  obtain ⟨part, hf, hpt⟩ := h
  have h72 := hf.used
  have h73 := hf.size
  have hlt := hf.lt
  obtain ⟨u, hu⟩ : ∃ u, u = m.length % 64 := ⟨_, rfl⟩
  have hu64 : u < 64 := by omega
  rw [← hu] at h72
  obtain ⟨n, hn⟩ : ∃ n, n = padN m.length := ⟨_, rfl⟩
  have HN := Lib.hid hn
  have HNU : Hid (64 - (u + 8) % 64 = n) := by show _ = _; rw [hn, hu]; rfl
  have hn1 := padN_bd m.length
  rw [← hn] at hn1
  obtain ⟨hn1, hn2⟩ := hn1
  have HU := Lib.hid hu
  clear hn hu hf hpt part hT
  obtain ⟨PA, hPA⟩ : ∃ PA, PA = bvA (padA n 0 m.length) := ⟨_, rfl⟩
  have hbt : Tryd.prog.built 70 [(0, .int .u8 128)] = some PA := by rw [hPA, ← padA_zero]; kernel_rfl
  have HPA := Lib.hid hPA
  have HBT := Lib.hid hbt
  have HSZ72 : Hid ((Tryd.prog.info? 70).map (·.size) = some PA.size) := by show _ = _; rw [hPA, bvA_size, padA_len]; kernel_rfl
  have HONE : Hid (PA.all (·.oneCell') = true) := by show _ = _; rw [hPA]; exact bvA_one _
  obtain ⟨Z, hZ⟩ : ∃ Z, Z = bvA (List.replicate 72 0) := ⟨_, rfl⟩
  have hz := fun W : World => (by rw [hZ]; kernel_rfl : (zeroValue 70).run Tryd.prog W = .ok (.agg Z) W)
  have HZP : Hid (Z.size = PA.size) := by show _ = _; rw [hZ, hPA, bvA_size, bvA_size, padA_len]; decide
  clear hbt hPA hZ
  go_enter Tryd.func34, Tryd.ntmps34
  go_wp2_with (first | (refine wpList_built rfl 70 #[(0, .const (.int .u8 128))] rfl [(0, .int .u8 128)] ?_ PA HBT.out ?_) | (refine wpList_storeA rfl 70 (.tmp 3) (.tmp 8) rfl (w.heap.size + 1) PA rfl rfl 70 _ (heap_alloc2_new w _ _) HSZ72.out HZP.out HONE.out ?_))
  intro w2 h2 hg2
  have hB2 : Below w.heap.size w w2 := by
    refine grown_below (((Below.refl _ _).alloc (Nat.le_refl _) _).alloc (by simp) _) hg2 (Nat.le_succ _) (by simp; omega)
  have hO : BB w2 w.heap.size 29 (List.replicate 32 0) := by
    refine (hg2.block w.heap.size (by simp; omega) (fun e => by injection e with e; omega)).trans ?_
    exact heap_alloc2_old w _ _
  rw [HPA.out] at h2
  have HP2 : Hid (BB w2 (w.heap.size + 1) 70 (padA n 0 m.length)) := Lib.hid h2
  have HO2 := Lib.hid hO
  have HH2 := Lib.hid (HH.out.below hB2 hlt)
  have HB2 := Lib.hid hB2
  have hz2 : w.heap.size + 1 < w2.heap.size := HP2.out.lt
  have g72 := (hB2.cell (p := ⟨R, 72, none⟩) hlt).trans h72
  have g73 := (hB2.cell (p := ⟨R, 73, none⟩) hlt).trans h73
  have hNU : (64 : Int) - ((u : Int) + 8) % 64 = (n : Int) := by have := HNU.out; omega
  clear h2 hg2 hB2 hO h72 h73 HBT HSZ72 HONE hz HZP HPA
  go_wp2_with fail
  clear g72 g73 hNU
  go_loopw [21] (fun i wr => ∃ k : Nat, k ≤ 8 ∧ i = .int .i64 k ∧ BB wr (w.heap.size + 1) 70 (padA n k m.length) ∧ BB wr w.heap.size 29 (List.replicate 32 0) ∧ HM wr R m ∧ Below w.heap.size w wr) (fun i _ => 8 - (intOf i).toNat)
  case atStart => exact ⟨0, by omega, rfl, HP2.out, HO2.out, HH2.out, HB2.out⟩
  case round =>
    clear HP2 HO2 HH2 HB2 hz2
    obtain ⟨k, hk, rfl, hp, ho, hm, hb⟩ := hrel
    have HP := Lib.hid hp
    have HO := Lib.hid ho
    have HM' := Lib.hid hm
    have HB := Lib.hid hb
    clear hp ho hm hb
    by_cases hlt8 : k < 8
    · have cf := HP.out.frozen (n + k)
      have ck := HP.out.cell (n + k) (by rw [padA_len]; omega)
      generalize hx : (padA n k m.length)[n + k]'(by rw [padA_len]; omega) = xk at ck
      clear hx
      have HX := Lib.hid (padA_set n k m.length hn1)
      go_wp2_with fail
      go_roundw
      case rel =>
        refine ⟨k + 1, by omega, by go_num, ?_, HO.out.setO (by omega) _ _, HM'.out.below ((Below.refl _ _).setCell (Nat.le_succ _) _) hlt, HB.out.setCell (Nat.le_succ _) _⟩
        rw [bv_szB, ← HX.out]
        exact HP.out.set_ _ _
      case measure => simp [intOf]; omega
    · obtain rfl : k = 8 := by omega
      have hw := write_any R m (some ⟨w.heap.size + 1, 0, none⟩) 72 (padB m.length) wr (HT.out.below HB.out HT.out.lt) hR HM'.out (by unfold padB; rw [← HN.out]; exact HP.out.rd (by omega) (by rw [padA_len]; unfold maxLen; omega) _) (by rw [padB_len, ← HN.out]; omega) (by unfold maxLen; omega) (by rw [padB_len, ← HN.out]; omega)
      rw [padB_len, ← HN.out] at hw
      have HW := Lib.hid hw
      clear hw
      have hsp := slice_pad (w.heap.size + 1) n hn2
      go_wp2_with fail
      refine HW.out.mono ?_
      rintro e w3 ⟨rfl, hm3, hg3⟩
      have hBB3 := HO.out.grown hg3 (by omega)
      have hG3 := grown_trans ⟨HB.out.os, HB.out.tape, HB.out.output, HB.out.size, fun k hk _ => HB.out.block k hk⟩ hg3
      obtain ⟨st, hst⟩ : ∃ st, st = stOf (m ++ padB m.length) := ⟨_, rfl⟩
      have hR3 : ∃ rest, HR w3 R st rest := by
        obtain ⟨part, hf, _⟩ := hm3
        rw [hst]; exact ⟨_, hf.2⟩
      have HST := Lib.hid hst
      have HBB3 := Lib.hid hBB3
      have HG3 := Lib.hid hG3
      have HR3 := Lib.hid hR3
      clear hm3 hg3 hBB3 hG3 hst hR3 HW HP HO HM' HB
      go_wp2_with fail
      go_loopw [40] (fun i wr => ∃ k : Nat, k ≤ 32 ∧ i = .int .i64 k ∧ BB wr w.heap.size 29 (outTo st k) ∧ (∃ rest, HR wr R st rest) ∧ w.grownBy wr (some R)) (fun i _ => 32 - (intOf i).toNat)
      case atStart => exact ⟨0, by omega, rfl, HBB3.out, HR3.out, HG3.out⟩
      case round =>
        clear HBB3 HR3 HG3
        obtain ⟨k, hk, rfl, ho, ⟨rest, hr⟩, hg⟩ := hrel
        have HO := Lib.hid ho
        have HRR := Lib.hid hr
        have HG := Lib.hid hg
        clear ho hr hg
        by_cases hlt32 : k < 32
        · have cf := HO.out.frozen k
          have ck := HO.out.cell k (by rw [outTo_len]; omega)
          have cr := HRR.out.cell (k / 4) (by omega)
          have HX := Lib.hid (outTo_set st k)
          have HV := Lib.hid (bv_outB st k)
          generalize st.getD (k / 4) 0 = yk at cr HV
          generalize hx : (outTo st k)[k]'(by rw [outTo_len]; omega) = xk at ck
          clear hx
          go_wp2_with fail
          go_roundw
          case rel =>
            refine ⟨k + 1, by omega, by go_num, ?_, ⟨rest, HRR.out.below ((Below.refl _ _).setCell (Nat.le_refl _) _) hlt⟩, ?_⟩
            · rw [HV.out, ← HX.out]
              exact HO.out.set_ _ _
            · exact grown_setNew HG.out (Nat.le_refl _) _ _
          case measure => simp [intOf]; omega
        · obtain rfl : k = 32 := by omega
          have hsz : (Tryd.prog.info? 29).map (·.size) = some (bvA (outTo st 32)).size := by rw [bvA_size, outTo_len]; kernel_rfl
          go_wp2_with (first | (refine wpList_load_row rfl 29 (.tmp 2) rfl w.heap.size rfl _ (bvA (outTo st 32)) (0, 0) _ HO.out Tryd.underlying29 rfl hsz ?_) | (refine wpList_storeA rfl 29 (.tmp 2) (.tmp 59) rfl w.heap.size (bvA (outTo st 32)) rfl rfl _ _ HO.out hsz rfl (bvA_one _) ?_))
          intro w4 h4 hg4
          have hS : sha m = outTo st 32 := by rw [HST.out]; rfl
          go_wp2_with fail
          refine bodyPost_ret (v := .agg (bvA (sha m))) ?_ rfl ⟨rfl, grown_rowNew HG.out hg4 (Nat.le_refl _)⟩
          rw [hS]
          exact results_cell_row rfl _ _ w.heap.size 29 _ (0, 0) _ rfl h4 Tryd.underlying29 rfl hsz
end Go.Proofs.YtmeoicfeiamkmaaDoor
