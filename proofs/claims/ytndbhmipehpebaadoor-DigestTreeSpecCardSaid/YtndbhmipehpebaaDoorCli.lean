/-
  Climb of package digest.
-/
import Derived.Test.YtndbhmipehpebaaDoorClm
namespace Go.Proofs.YtndbhmipehpebaaDoor
open Go.RowKit

theorem results_cell_tmp {P : Program} {fn : Func} {p t : Tmp} {ty : TypeId} (h : fn.results = #[.cell p ty, .tmp t]) (tmps : Array Value) (w : World) (b o : Nat) (cs : List Value) (d : TypeDesc)
    (hp : tmps.getD p undef = .pointer (some ⟨b, o, none⟩)) (hc : w.rangeAt b o cs) (hu : P.underlying ty = some d) (hd : d.isRow = true) (hi : (P.info? ty).map (·.size) = some cs.length) (v2 : Value) (ht : tmps.getD t undef = v2) :
    (results fn tmps).run P w = .ok (.tuple #[.agg cs.toArray, v2]) w := by
  subst ht
  have hp' : tmps[p]?.getD undef = .pointer (some ⟨b, o, none⟩) := by simpa using hp
  simp [results, h, hp', asAddr, run_loadVar_mid w b o ty cs d hc hu hd hi]

def DigErr (w : World) (d : List UInt8) (k : Int) (e : Ending) (w' : World) : Prop := e = .returned (.tuple #[.agg (bvA d), .int .i64 k]) ∧ Below w.heap.size w w'
def zero32 : List UInt8 := List.replicate 32 0

set_option maxRecDepth 100000 in
set_option maxHeartbeats 800000 in
theorem Climb_ok (d : List UInt8) (at_ n : Nat) (a : Option Addr) (cap : Nat) (p : List (List UInt8)) (w : World) (hd : d.length = 32) (hT : Tab w) (hl : RdD w.heap.size w a p) (hcap : p.length ≤ cap) (hc2 : cap ≤ maxLen) (hat : at_ < n) (hmax : n ≤ 1099511627776) (hlen : p.length = lenS at_ n) :
    Calls Tryd.prog 22 #[.agg (bvA d), .int .i64 at_, .int .i64 n, .slice a p.length cap] w (DigErr w (climbS d at_ n p) 0) := by
  have HT := Lib.hid hT
  have HL := Lib.hid hl
  have HC2 := Lib.hid hc2
  have HD := Lib.hid hd
  have HLEN := Lib.hid hlen
  have hlt1 : p.length ≤ 1099511627776 := by rw [hlen]; have := lenS_le _ at_ n (Nat.lt_succ_self _); omega
  clear hT hl hd hlen
  unfold maxLen at hc2
  have HBX : Hid (((w.alloc (.cells (bvA d) 26)).alloc (.cells (bvA (List.replicate 32 0)) 26)).heap[w.heap.size]? = some (.cells (bvA d) 26 (0, 0))) := heap_alloc2_old w _ _
  have HSR : Hid ((Tryd.prog.info? 26).map (·.size) = some (bvA d).size) := by show _ = _; rw [bvA_size, HD.out]; exact sha_size
  have hPL := fun W => pathLength_any at_ n W hat hmax
  rw [← HLEN.out] at hPL
  have HPL := Lib.hid hPL
  clear hPL
  have f1 : decide ((n : Int) < 1) = false := decide_eq_false (by omega)
  have f2 : decide (1099511627776 < (n : Int)) = false := decide_eq_false (by omega)
  have f3 : decide ((at_ : Int) < 0) = false := decide_eq_false (by omega)
  have f4 : decide (n ≤ at_) = false := decide_eq_false (by omega)
  go_enter Tryd.func22, Tryd.ntmps22
  go_wp2_with (first | (go_at_call 40; refine (HPL.out _).mono ?_; rintro e w' ⟨rfl, rfl⟩) | (refine wpList_load_row rfl 26 (.tmp 4) rfl w.heap.size rfl _ (bvA d) (0, 0) _ HBX.out digest_und rfl HSR.out ?_))
  obtain ⟨w1, hw1⟩ : ∃ w1, w1 = (w.alloc (.cells (bvA d) 26)).alloc (.cells (bvA (List.replicate 32 0)) 26) := ⟨_, rfl⟩
  have hB1 : Below w.heap.size w w1 := hw1 ▸ ((Below.refl _ _).alloc (Nat.le_refl _) _).alloc (by simp) _
  have hD1 : BB w1 (w.heap.size + 1) 26 (List.replicate 32 0) := hw1 ▸ heap_alloc2_new w _ _
  change Calls _ _ _ ((w.alloc (.cells (bvA d) 26)).alloc (.cells (bvA (List.replicate 32 0)) 26)) _
  rw [← hw1]
  clear hw1
  refine (climb_any _ d at_ n a cap p w1 (Nat.lt_succ_self _) HD.out (HT.out.below hB1 HT.out.lt) ((HL.out.below hB1).mono hB1.size) hcap HC2.out hat hmax HLEN.out).mono ?_
  rintro e w2 ⟨rfl, hb2⟩
  have HD2 := Lib.hid (hD1.below hb2 hD1.lt)
  have HB2 := Lib.hid (hB1.trans (hb2.mono hB1.size))
  have hX := climbS_len d at_ n p
  generalize climbS d at_ n p = X at *
  have HSX : Hid ((Tryd.prog.info? 26).map (·.size) = some (bvA X).size) := by show _ = _; rw [bvA_size, hX]; exact sha_size
  have HOX : Hid ((bvA (List.replicate 32 0)).size = (bvA X).size) := by show _ = _; rw [bvA_size, bvA_size, hX, List.length_replicate]
  clear hb2 hD1 hB1 hX
  go_wp2_with (refine wpList_storeA rfl 26 (.tmp 8) (.tmp 38) rfl (w.heap.size + 1) (bvA X) rfl rfl 26 _ HD2.out HSX.out HOX.out (bvA_one _) ?_)
  intro w9 h9 hg9
  have hB9 := grown_below HB2.out hg9 (Nat.le_succ _) HB2.out.size
  have hr9 : w9.rangeAt (w.heap.size + 1) 0 (X.map bv) := BB.range h9
  go_wp2_with fail
  refine bodyPost_ret (v := .tuple #[.agg (bvA X), .int .i64 0]) ?_ rfl ⟨rfl, hB9⟩
  exact results_cell_tmp rfl _ _ (w.heap.size + 1) 0 (X.map bv) _ rfl hr9 digest_und rfl (by rw [List.length_map, ← bvA_size]; exact HSX.out) _ rfl

set_option maxRecDepth 100000 in
set_option maxHeartbeats 1600000 in
theorem Climb_bad (d : List UInt8) (at_ n : Int) (a : Option Addr) (cap : Nat) (p : List (List UInt8)) (w : World) (hlp : p.length ≤ 9223372036854775807)
    (h : n < 1 ∨ 1099511627776 < n ∨ at_ < 0 ∨ n ≤ at_ ∨ p.length ≠ lenS at_.toNat n.toNat) :
    Calls Tryd.prog 22 #[.agg (bvA d), .int .i64 at_, .int .i64 n, .slice a p.length cap] w (DigErr w zero32 1) := by
  have HSX : Hid ((Tryd.prog.info? 26).map (·.size) = some (bvA zero32).size) := by show _ = _; kernel_rfl
  have HBD : Hid (((w.alloc (.cells (bvA d) 26)).alloc (.cells (bvA (List.replicate 32 0)) 26)).heap[w.heap.size + 1]? = some (.cells (bvA zero32) 26 (0, 0))) := heap_alloc2_new w _ _
  have HB1 : Hid (Below w.heap.size w ((w.alloc (.cells (bvA d) 26)).alloc (.cells (bvA (List.replicate 32 0)) 26))) := ((Below.refl _ _).alloc (Nat.le_refl _) _).alloc (by simp) _
  have HSZ : Hid (w.heap.size ≤ ((w.alloc (.cells (bvA d) 26)).alloc (.cells (bvA (List.replicate 32 0)) 26)).heap.size) := by show _ ≤ _; simp; omega
  by_cases h1 : n < 1
  · have f1 : decide (n < 1) = true := decide_eq_true h1
    clear h
    go_enter Tryd.func22, Tryd.ntmps22
    go_wp2_with (first | (go_at_call 40; refine (HPL.out _).mono ?_; rintro e w' ⟨rfl, rfl⟩) | (refine wpList_storeA rfl 26 (.tmp 8) (.tmp 33) rfl (w.heap.size + 1) (bvA zero32) rfl rfl 26 _ HBD.out HSX.out rfl (bvA_one _) ?_))
    intro w9 h9 hg9
    have hB9 := grown_below HB1.out hg9 (Nat.le_succ _) HSZ.out
    have hr9 : w9.rangeAt (w.heap.size + 1) 0 (zero32.map bv) := BB.range h9
    go_wp2_with fail
    refine bodyPost_ret (v := .tuple #[.agg (bvA zero32), .int .i64 1]) ?_ rfl ⟨rfl, hB9⟩
    exact results_cell_tmp rfl _ _ (w.heap.size + 1) 0 (zero32.map bv) _ rfl hr9 digest_und rfl (by rw [List.length_map, ← bvA_size]; exact HSX.out) _ rfl
  by_cases h2 : 1099511627776 < n
  · have f1 : decide (n < 1) = false := decide_eq_false h1
    have f2 : decide (1099511627776 < n) = true := decide_eq_true h2
    clear h
    go_enter Tryd.func22, Tryd.ntmps22
    go_wp2_with (first | (go_at_call 40; refine (HPL.out _).mono ?_; rintro e w' ⟨rfl, rfl⟩) | (refine wpList_storeA rfl 26 (.tmp 8) (.tmp 33) rfl (w.heap.size + 1) (bvA zero32) rfl rfl 26 _ HBD.out HSX.out rfl (bvA_one _) ?_))
    intro w9 h9 hg9
    have hB9 := grown_below HB1.out hg9 (Nat.le_succ _) HSZ.out
    have hr9 : w9.rangeAt (w.heap.size + 1) 0 (zero32.map bv) := BB.range h9
    go_wp2_with fail
    refine bodyPost_ret (v := .tuple #[.agg (bvA zero32), .int .i64 1]) ?_ rfl ⟨rfl, hB9⟩
    exact results_cell_tmp rfl _ _ (w.heap.size + 1) 0 (zero32.map bv) _ rfl hr9 digest_und rfl (by rw [List.length_map, ← bvA_size]; exact HSX.out) _ rfl
  by_cases h3 : at_ < 0
  · have f1 : decide (n < 1) = false := decide_eq_false h1
    have f2 : decide (1099511627776 < n) = false := decide_eq_false h2
    have f3 : decide (at_ < 0) = true := decide_eq_true h3
    clear h
    go_enter Tryd.func22, Tryd.ntmps22
    go_wp2_with (first | (go_at_call 40; refine (HPL.out _).mono ?_; rintro e w' ⟨rfl, rfl⟩) | (refine wpList_storeA rfl 26 (.tmp 8) (.tmp 33) rfl (w.heap.size + 1) (bvA zero32) rfl rfl 26 _ HBD.out HSX.out rfl (bvA_one _) ?_))
    intro w9 h9 hg9
    have hB9 := grown_below HB1.out hg9 (Nat.le_succ _) HSZ.out
    have hr9 : w9.rangeAt (w.heap.size + 1) 0 (zero32.map bv) := BB.range h9
    go_wp2_with fail
    refine bodyPost_ret (v := .tuple #[.agg (bvA zero32), .int .i64 1]) ?_ rfl ⟨rfl, hB9⟩
    exact results_cell_tmp rfl _ _ (w.heap.size + 1) 0 (zero32.map bv) _ rfl hr9 digest_und rfl (by rw [List.length_map, ← bvA_size]; exact HSX.out) _ rfl
  by_cases h4 : n ≤ at_
  · have f1 : decide (n < 1) = false := decide_eq_false h1
    have f2 : decide (1099511627776 < n) = false := decide_eq_false h2
    have f3 : decide (at_ < 0) = false := decide_eq_false h3
    have f4 : decide (n ≤ at_) = true := decide_eq_true h4
    clear h
    go_enter Tryd.func22, Tryd.ntmps22
    go_wp2_with (first | (go_at_call 40; refine (HPL.out _).mono ?_; rintro e w' ⟨rfl, rfl⟩) | (refine wpList_storeA rfl 26 (.tmp 8) (.tmp 33) rfl (w.heap.size + 1) (bvA zero32) rfl rfl 26 _ HBD.out HSX.out rfl (bvA_one _) ?_))
    intro w9 h9 hg9
    have hB9 := grown_below HB1.out hg9 (Nat.le_succ _) HSZ.out
    have hr9 : w9.rangeAt (w.heap.size + 1) 0 (zero32.map bv) := BB.range h9
    go_wp2_with fail
    refine bodyPost_ret (v := .tuple #[.agg (bvA zero32), .int .i64 1]) ?_ rfl ⟨rfl, hB9⟩
    exact results_cell_tmp rfl _ _ (w.heap.size + 1) 0 (zero32.map bv) _ rfl hr9 digest_und rfl (by rw [List.length_map, ← bvA_size]; exact HSX.out) _ rfl
  have h5 : p.length ≠ lenS at_.toNat n.toNat := by omega
  have hle := lenS_le _ at_.toNat n.toNat (Nat.lt_succ_self _)
  have hPL := fun W => pathLength_any at_.toNat n.toNat W (by omega) (by omega)
  rw [Int.toNat_of_nonneg (by omega), Int.toNat_of_nonneg (by omega)] at hPL
  generalize lenS at_.toNat n.toNat = L at *
  have HPL := Lib.hid hPL
  have f1 : decide (n < 1) = false := decide_eq_false h1
  have f2 : decide (1099511627776 < n) = false := decide_eq_false h2
  have f3 : decide (at_ < 0) = false := decide_eq_false h3
  have f4 : decide (n ≤ at_) = false := decide_eq_false h4
  have f5 : ((p.length : Int) != (L : Int)) = true := by rw [bne_iff_ne]; omega
  have HL5 := Lib.hid h5
  clear h hPL hle h5
  go_enter Tryd.func22, Tryd.ntmps22
  go_wp2_with (first | (go_at_call 40; refine (HPL.out _).mono ?_; rintro e w' ⟨rfl, rfl⟩) | (refine wpList_storeA rfl 26 (.tmp 8) (.tmp 33) rfl (w.heap.size + 1) (bvA zero32) rfl rfl 26 _ HBD.out HSX.out rfl (bvA_one _) ?_))
  intro w9 h9 hg9
  have hB9 := grown_below HB1.out hg9 (Nat.le_succ _) HSZ.out
  have hr9 : w9.rangeAt (w.heap.size + 1) 0 (zero32.map bv) := BB.range h9
  go_wp2_with fail
  refine bodyPost_ret (v := .tuple #[.agg (bvA zero32), .int .i64 1]) ?_ rfl ⟨rfl, hB9⟩
  exact results_cell_tmp rfl _ _ (w.heap.size + 1) 0 (zero32.map bv) _ rfl hr9 digest_und rfl (by rw [List.length_map, ← bvA_size]; exact HSX.out) _ rfl
end Go.Proofs.YtndbhmipehpebaaDoor
