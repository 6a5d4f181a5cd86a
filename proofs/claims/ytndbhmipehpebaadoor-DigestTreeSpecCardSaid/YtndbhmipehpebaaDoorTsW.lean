/-
  The walk of chartroomlaw02.DigestTreeSpec.
-/
import Derived.Test.YtndbhmipehpebaaDoorNextW
import Derived.Test.YtndbhmipehpebaaDoorRcl
namespace Go.Proofs.YtndbhmipehpebaaDoor
open Go.RowKit
set_option linter.unusedVariables false
set_option linter.unusedSimpArgs false

def puts (a : Act) (slots : List Nat) (f : Nat → Value) : Act := slots.foldl (fun a i => a.put (some i) (f i)) a
/-- A region whose outcome is said once for all its orders: the slots that it writes, and what is known of them. -/
theorem region_puts {P : Program} {c : Code} {K : Act → World → Prop} {Q : Exit → Act → World → Prop} {a : Act} {w : World} (slots : List Nat) (G : (Nat → Value) → World → Prop) (hK : ∀ f w', G f w' → K (puts a slots f) w')
    (h : c.wp P (fun e a' w' => e = .normal ∧ ∃ f, a' = puts a slots f ∧ G f w') a w) : c.wp P (Exit.then K Q) a w :=
  Code.wp_mono (fun e a' w' h => by obtain ⟨rfl, f, rfl, h⟩ := h; exact hK _ _ h) h
theorem puts_ex {a' a : Act} {slots : List Nat} {G : (Nat → Value) → Prop} (h : a' = puts a slots (fun i => a'.tmps.getD i undef)) (hG : G (fun i => a'.tmps.getD i undef)) : ∃ f, a' = puts a slots f ∧ G f := ⟨_, h, hG⟩

open Classical in
noncomputable def pathR (D : List (List UInt8)) (i : Int) : List (List UInt8) × Int := if 0 ≤ i ∧ i < D.length then (pathS D i.toNat, 0) else ([], 1)
open Classical in
noncomputable def climbR (d : List UInt8) (i m : Int) (p : List (List UInt8)) : List UInt8 × Int :=
  if 1 ≤ m ∧ m ≤ 1099511627776 ∧ 0 ≤ i ∧ i < m ∧ p.length = lenS i.toNat m.toNat then (climbS d i.toNat m.toNat p, 0) else (zero32, 1)
theorem pathR_len (D : List (List UInt8)) (i : Int) (h : D.length ≤ 24) : (pathR D i).1.length ≤ 5 := by
  unfold pathR
  split
  · rename_i hi
    rw [pathS_lenS _ D i.toNat (Nat.lt_succ_self _)]
    exact lenS_24 D.length (by omega) i.toNat (by omega)
  · simp
theorem climbR_len (d : List UInt8) (i m : Int) (p : List (List UInt8)) : (climbR d i m p).1.length = 32 := by
  unfold climbR
  split
  · exact climbS_len _ _ _ _
  · rfl
def PathPost (w : World) (P : List (List UInt8)) (k : Int) (e : Ending) (w' : World) : Prop := ∃ v, e = .returned (.tuple #[v, .int .i64 k]) ∧ OwnD w.heap.size w' v P ∧ Below w.heap.size w w'
theorem Path_all (a : Option Addr) (cap : Nat) (l : List (List UInt8)) (i : Int) (w : World) (hT : Tab w) (hl : RdD w.heap.size w a l) (hcap : l.length ≤ cap) (hc2 : cap ≤ maxLen) (hmax : l.length ≤ 1099511627776) :
    Calls Tryd.prog 19 #[.slice a l.length cap, .int .i64 i] w (PathPost w (pathR l i).1 (pathR l i).2) := by
  unfold pathR
  split
  · rename_i hi
    obtain ⟨n, rfl⟩ : ∃ n : Nat, i = (n : Int) := ⟨i.toNat, by omega⟩
    rw [Int.toNat_natCast]
    exact Path_ok a cap l n w hT hl hcap hc2 (by omega) hmax
  · rename_i hi
    refine (Path_bad a l.length cap i w (by omega) (by omega)).mono ?_
    rintro e w' ⟨rfl, rfl⟩
    exact ⟨_, rfl, OwnD.nil _ _, Below.refl _ _⟩
theorem refPath_all (a : Option Addr) (cap : Nat) (l : List (List UInt8)) (i : Int) (w : World) (hl : RdD w.heap.size w a l) (hcap : l.length ≤ cap) (hc2 : cap ≤ maxLen) (hmax : l.length ≤ 1099511627776) :
    Calls Tryd.prog 20 #[.slice a l.length cap, .int .i64 i] w (PathPost w (pathR l i).1 (pathR l i).2) := by
  unfold pathR
  split
  · rename_i hi
    obtain ⟨n, rfl⟩ : ∃ n : Nat, i = (n : Int) := ⟨i.toNat, by omega⟩
    rw [Int.toNat_natCast]
    exact refPath_ok a cap l n w hl hcap hc2 (by omega) hmax
  · rename_i hi
    refine (refPath_bad a l.length cap i w (by omega) (by omega)).mono ?_
    rintro e w' ⟨rfl, rfl⟩
    exact ⟨_, rfl, OwnD.nil _ _, Below.refl _ _⟩
theorem Climb_all (d : List UInt8) (i m : Int) (a : Option Addr) (cap : Nat) (p : List (List UInt8)) (w : World) (hd : d.length = 32) (hT : Tab w) (hl : RdD w.heap.size w a p) (hcap : p.length ≤ cap) (hc2 : cap ≤ maxLen) (hp : p.length ≤ 1099511627776) :
    Calls Tryd.prog 22 #[.agg (bvA d), .int .i64 i, .int .i64 m, .slice a p.length cap] w (DigErr w (climbR d i m p).1 (climbR d i m p).2) := by
  unfold climbR
  split
  · rename_i h
    obtain ⟨h1, h2, h3, h4, h5⟩ := h
    obtain ⟨n, rfl⟩ : ∃ n : Nat, i = (n : Int) := ⟨i.toNat, by omega⟩
    obtain ⟨mm, rfl⟩ : ∃ mm : Nat, m = (mm : Int) := ⟨m.toNat, by omega⟩
    rw [Int.toNat_natCast, Int.toNat_natCast] at *
    exact Climb_ok d n mm a cap p w hd hT hl hcap hc2 (by omega) (by omega) h5
  · rename_i h
    refine Climb_bad d i m a cap p w (by omega) ?_
    by_cases h1 : 1 ≤ m
    · by_cases h2 : m ≤ 1099511627776
      · by_cases h3 : 0 ≤ i
        · by_cases h4 : i < m
          · exact .inr (.inr (.inr (.inr fun h5 => h ⟨h1, h2, h3, h4, h5⟩)))
          · omega
        · omega
      · omega
    · omega
theorem refClimb_all (d : List UInt8) (i m : Int) (a : Option Addr) (cap : Nat) (p : List (List UInt8)) (w : World) (hd : d.length = 32) (hl : RdD w.heap.size w a p) (hcap : p.length ≤ cap) (hc2 : cap ≤ maxLen) (hp : p.length ≤ 1099511627776) :
    Calls Tryd.prog 23 #[.agg (bvA d), .int .i64 i, .int .i64 m, .slice a p.length cap] w (DigErr w (climbR d i m p).1 (climbR d i m p).2) := by
  unfold climbR
  split
  · rename_i h
    obtain ⟨h1, h2, h3, h4, h5⟩ := h
    obtain ⟨n, rfl⟩ : ∃ n : Nat, i = (n : Int) := ⟨i.toNat, by omega⟩
    obtain ⟨mm, rfl⟩ : ∃ mm : Nat, m = (mm : Int) := ⟨m.toNat, by omega⟩
    rw [Int.toNat_natCast, Int.toNat_natCast] at *
    exact refClimb_ok d n mm a cap p w hd hl hcap hc2 (by omega) (by omega) h5
  · rename_i h
    refine refClimb_bad d i m a cap p w (by omega) ?_
    by_cases h1 : 1 ≤ m
    · by_cases h2 : m ≤ 1099511627776
      · by_cases h3 : 0 ≤ i
        · by_cases h4 : i < m
          · exact .inr (.inr (.inr (.inr fun h5 => h ⟨h1, h2, h3, h4, h5⟩)))
          · omega
        · omega
      · omega
    · omega
/-- A slice of three slices. -/
theorem wp_build3 {o : Oper} {a : Act} {w : World} {K : Act → World → Prop} {Q : Exit → Act → World → Prop} (x0 x1 x2 : Operand) (ho : o.op = .buildSlice 38 3 #[(0, x0), (1, x1), (2, x2)])
    (a0 a1 a2 : Option Addr) (n0 n1 n2 c0 c1 c2 : Nat) (h0 : a.eval x0 = .slice a0 n0 c0) (h1 : a.eval x1 = .slice a1 n1 c1) (h2 : a.eval x2 = .slice a2 n2 c2)
    (h : ∀ w' g, w'.heap[g]? = some (.cells #[.slice a0 n0 c0, .slice a1 n1 c1, .slice a2 n2 c2] 30 (0, 0)) → w.heap.size ≤ g → Below w.heap.size w w' → K (a.put o.dst (.slice (some ⟨g, 0, none⟩) 3 3)) w') : o.wp Tryd.prog a w K Q := by
  have hh := h (w.alloc (.cells #[.slice a0 n0 c0, .slice a1 n1 c1, .slice a2 n2 c2] 30)) w.heap.size (heap_alloc_new w _) (Nat.le_refl _) ((Below.refl _ _).alloc (Nat.le_refl _) _)
  unfold Oper.wp execOp
  have hr : (Instr.buildSlice 38 3 #[(0, .slice a0 n0 c0), (1, .slice a1 n1 c1), (2, .slice a2 n2 c2)]).run Tryd.prog w = .ok (.slice (some ⟨w.heap.size, 0, none⟩) 3 3) (w.alloc (.cells #[.slice a0 n0 c0, .slice a1 n1 c1, .slice a2 n2 c2] 30)) := by kernel_rfl
  simp only [ho, Sem.run_bind, Sem.run_pure, Result.andThen_ok, Array.map_empty, List.map_toArray, List.map_cons, List.map_nil, h0, h1, h2, hr]
  exact hh
theorem slice_half (a : Option Addr) (n cap : Nat) (h : n ≤ cap) (W : World) : (Instr.slice 30 (.slice a n cap) none (some (.int .i64 ((n : Int) / 2))) none).run Tryd.prog W = .ok (.slice a (n / 2) cap) W := by
  have h2 := sliceD_to a n cap (n / 2) (by omega) W
  rw [show (((n / 2 : Nat) : Int)) = (n : Int) / 2 by omega] at h2
  exact h2

set_option maxRecDepth 100000 in
set_option maxHeartbeats 6400000 in
theorem treeSpec_walk (a : Option Addr) (cap : Nat) (l : List UInt8) (at_ n : Int) (d : List UInt8) (hd : d.length = 32) (w : World) (hT : Tab w) (hl : RdB w.heap.size w a l) (hcap : l.length ≤ cap) (hc2 : cap ≤ maxLen) :
    Calls Tryd.prog 4 #[.slice a l.length cap, .int .i64 at_, .int .i64 n, .agg (bvA d)] w fun e w' => e = .returned (.bool true) ∧ Below w.heap.size w w' := by
  have HT := Lib.hid hT
  have HL := Lib.hid hl
  have HC2 := Lib.hid hc2
  have HD := Lib.hid hd
  have hlt := HT.out.lt
  clear hT hl hd
  unfold maxLen at hc2
  have hqg : Tryd.prog.eqGuardType Tryd.prog.depth 26 = false := by kernel_rfl
  have HI : Hid ((Tryd.prog.info? 26).map (·.size) = some (d.map bv).length) := by show _ = _; rw [List.length_map, HD.out]; exact sha_size
  go_enter Tryd.func4, Tryd.ntmps4
  go_wp2_with fail
  change Calls _ _ _ (w.alloc (.cells (bvA d) 26)) _
  obtain ⟨w1, hw1⟩ : ∃ w1, w1 = w.alloc (.cells (bvA d) 26) := ⟨_, rfl⟩
  have hB1 : Below w.heap.size w w1 := hw1 ▸ (Below.refl _ _).alloc (Nat.le_refl _) _
  have hA1 : BB w1 w.heap.size 26 d := hw1 ▸ BB.new w _ _
  rw [← hw1]
  clear hw1
  refine (sane_any w1 (HT.out.below hB1 hlt)).mono ?_
  rintro e w2 ⟨rfl, hb2⟩
  have HB2 := Lib.hid (hB1.trans (hb2.mono hB1.size))
  have HA2 := Lib.hid (hA1.below hb2 hA1.lt)
  clear hb2 hB1 hA1
  go_wp2_with fail
  refine (digestsOf_any a cap l w2 ((HL.out.below HB2.out).mono HB2.out.size) hcap HC2.out).mono ?_
  rintro e w3 ⟨v3, rfl, ho3, hb3⟩
  have hD24 := digs_len l
  generalize digs l = D at *
  have HB3 := Lib.hid (HB2.out.trans (hb3.mono HB2.out.size))
  have HA3 := Lib.hid (HA2.out.below hb3 HA2.out.lt)
  obtain ⟨av, cv, rfl, hf1, hf2, hf3, hf4⟩ := ho3.form
  have HV := Lib.hid hf4
  have HC3 := Lib.hid hf2
  clear ho3 hb3 hf4 hf3 HB2 HA2
  unfold maxLen at hf2
  obtain ⟨TR, hTR⟩ : ∃ TR, TR = treeS D := ⟨_, rfl⟩
  have hTR32 : TR.length = 32 := by rw [hTR]; exact treeS_len _
  have heqT : ∀ W, (Op.equalIn 10000 26 (.agg (bvA TR)) (.agg (bvA TR))).run Tryd.prog W = .ok true W := equal_same TR hTR32
  have c1 : Hid (Calls Tryd.prog 17 #[.slice av D.length cv] w3 fun e w' => e = .returned (.agg (bvA TR)) ∧ Below w3.heap.size w3 w') := by rw [hTR]; exact tree_any _ av cv D w3 (Nat.lt_succ_self _) (HT.out.below HB3.out hlt) HV.out hf1 HC3.out
  have c2 : Hid (∀ W, Below w3.heap.size w3 W → Calls Tryd.prog 18 #[.slice av D.length cv] W fun e w' => e = .returned (.agg (bvA TR)) ∧ Below W.heap.size W w') := fun W hW => by rw [hTR]; exact refTree _ av cv D W (Nat.lt_succ_self _) ((HV.out.below hW).mono hW.size) hf1 HC3.out (by omega)
  clear hTR hTR32
  go_wp2_with fail
  refine c1.out.mono ?_
  rintro e w4 ⟨rfl, hb4⟩
  have HB4 := Lib.hid hb4
  clear hb4
  go_wp2_with fail
  refine (c2.out w4 HB4.out).mono ?_
  rintro e w5 ⟨rfl, hb5⟩
  have HB5 := Lib.hid (HB4.out.trans (hb5.mono HB4.out.size))
  clear hb5 HB4 c1 c2
  go_wp2_with fail
  obtain ⟨w6, hw6⟩ : ∃ w6, w6 = w5.alloc (.cells #[.int .i64 at_, .int .i64 (bits BinOp.and IntKind.i64 at_ 15)] 3) := ⟨_, rfl⟩
  have hB6 : Below w5.heap.size w5 w6 := hw6 ▸ (Below.refl _ _).alloc (Nat.le_refl _) _
  have hc6 : ∀ k, k < 2 → ∃ m, w6.cell? ⟨w5.heap.size, k, none⟩ = some (.int .i64 m) := by
    intro k hk
    rw [hw6, cell_of_row _ _ _ _ _ _ (heap_alloc_new w5 _)]
    have : k = 0 ∨ k = 1 := by omega
    rcases this with rfl | rfl
    · exact ⟨_, rfl⟩
    · exact ⟨_, rfl⟩
  have hz6 : w5.heap.size < w6.heap.size := by rw [hw6]; simp
  rw [← hw6]
  have HC6 := Lib.hid hc6
  have HB6 := Lib.hid (HB5.out.trans (hB6.mono HB5.out.size))
  clear hw6 hB6 hc6 HB5 heqT
  have HA6 := Lib.hid (HA3.out.below HB6.out HA3.out.lt)
  have HV6 := Lib.hid ((HV.out.below HB6.out).mono HB6.out.size)
  have HW6 := Lib.hid (HB3.out.trans (HB6.out.mono HB3.out.size))
  clear HA3 HV HB6 HB3
  go_loopw [38] (fun i wr => ∃ k : Nat, k ≤ 2 ∧ i = .int .i64 k ∧ Below w6.heap.size w6 wr) (fun i _ => 2 - (intOf i).toNat)
  case atStart => exact ⟨0, by omega, rfl, Below.refl _ _⟩
  case round =>
    obtain ⟨k, hk, rfl, hb⟩ := hrel
    have HBr := Lib.hid hb
    have HWr := Lib.hid (HW6.out.trans (hb.mono HW6.out.size))
    by_cases hlt2 : k < 2
    · obtain ⟨i, hi⟩ := HC6.out k hlt2
      have hir := (hb.cell (p := ⟨w5.heap.size, k, none⟩) hz6).trans hi
      have HVr := Lib.hid ((HV6.out.below hb).mono hb.size)
      have hk0 : (0 : Int) ≤ (k : Int) := by omega
      have hk1 : (k : Int) < 2 := by omega
      obtain ⟨P, hP⟩ : ∃ P, P = (pathR D i).1 := ⟨_, rfl⟩
      obtain ⟨kk, hkk⟩ : ∃ kk, kk = (pathR D i).2 := ⟨_, rfl⟩
      have hP5 : P.length ≤ 5 := by rw [hP]; exact pathR_len D i hD24
      have c3 : Hid (Calls Tryd.prog 19 #[.slice av D.length cv, .int .i64 i] wr (PathPost wr P kk)) := by
        rw [hP, hkk]; exact Path_all av cv D i wr (HT.out.below HWr.out hlt) HVr.out hf1 HC3.out (by omega)
      have c4 : Hid (∀ W, Below wr.heap.size wr W → Calls Tryd.prog 20 #[.slice av D.length cv, .int .i64 i] W (PathPost W P kk)) := fun W hW => by
        rw [hP, hkk]; exact refPath_all av cv D i W ((HVr.out.below hW).mono hW.size) hf1 HC3.out (by omega)
      have fk : (kk != kk) = false := by simp
      clear hb hi hP hkk HVr
      go_wp2_with fail
      refine c3.out.mono ?_
      rintro e wa ⟨va, rfl, hoa, hba⟩
      have HOa := Lib.hid hoa
      have HBa := Lib.hid hba
      obtain ⟨ap, cp, rfl, hp1, hp2, hp3, hp4⟩ := hoa.form
      have HPa := Lib.hid hp4
      clear hoa hba hp4 hp3 hp2 c3
      go_wp2_with fail
      refine (c4.out wa HBa.out).mono ?_
      rintro e wb ⟨vb, rfl, hob, hbb⟩
      have HPb := Lib.hid ((HPa.out.below hbb).mono hbb.size)
      have HBb := Lib.hid (HBa.out.trans (hbb.mono HBa.out.size))
      obtain ⟨aq, cq, rfl, hq1, hq2, hq3, hq4⟩ := hob.form
      have HQb := Lib.hid hq4
      have HQ2 := Lib.hid hq2
      have HQ3 := Lib.hid hq3
      clear hob hbb hq4 hq3 hq2 c4 HPa HBa HOa
      go_wp2_with fail
      refine (refSame ap aq cp cq P wb HPb.out HQb.out hp1 hq1 (by omega)).mono ?_
      rintro e wc ⟨rfl, hbc⟩
      have HQc := Lib.hid ((HQb.out.below hbc).mono hbc.size)
      have HBc := Lib.hid (HBb.out.trans (hbc.mono HBb.out.size))
      clear hbc HPb HQb HBb
      go_wp2_with fail
      obtain ⟨wd, hwd⟩ : ∃ wd, wd = wc.alloc (.cells #[.int .i64 n, .int .i64 (D.length : Int)] 3) := ⟨_, rfl⟩
      have hBd : Below wc.heap.size wc wd := hwd ▸ (Below.refl _ _).alloc (Nat.le_refl _) _
      have hcd : ∀ k, k < 2 → ∃ m, wd.cell? ⟨wc.heap.size, k, none⟩ = some (.int .i64 m) := by
        intro k hk
        rw [hwd, cell_of_row _ _ _ _ _ _ (heap_alloc_new wc _)]
        have : k = 0 ∨ k = 1 := by omega
        rcases this with rfl | rfl
        · exact ⟨_, rfl⟩
        · exact ⟨_, rfl⟩
      have hzd : wc.heap.size < wd.heap.size := by rw [hwd]; simp
      rw [← hwd]
      have HCd := Lib.hid hcd
      have HBd := Lib.hid (HBc.out.trans (hBd.mono HBc.out.size))
      have HQd := Lib.hid ((HQc.out.below hBd).mono hBd.size)
      clear hwd hBd hcd HBc HQc
      have HB6d := Lib.hid (HBr.out.trans (HBd.out.mono HBr.out.size))
      have HAd := Lib.hid (HA6.out.below HB6d.out HA6.out.lt)
      have HWd := Lib.hid (HW6.out.trans (HB6d.out.mono HW6.out.size))
      clear HBd
      go_loopw [68] (fun i wr => ∃ k : Nat, k ≤ 2 ∧ i = .int .i64 k ∧ Below wd.heap.size wd wr) (fun i _ => 2 - (intOf i).toNat)
      case atStart => exact ⟨0, by omega, rfl, Below.refl _ _⟩
      case round =>
        obtain ⟨k2, hk2, rfl, hb⟩ := hrel
        have HB2r := Lib.hid hb
        by_cases hlt3 : k2 < 2
        · obtain ⟨m, hm⟩ := HCd.out k2 hlt3
          have hmr := (hb.cell (p := ⟨wc.heap.size, k2, none⟩) hzd).trans hm
          have HQr := Lib.hid ((HQd.out.below hb).mono hb.size)
          have HAr := Lib.hid (HAd.out.below hb HAd.out.lt)
          have hk20 : (0 : Int) ≤ (k2 : Int) := by omega
          have hk21 : (k2 : Int) < 2 := by omega
          have hsh := slice_half aq P.length cq hq1
          have hwq : IntKind.i64.wrap ((P.length : Int) / 2) = (P.length : Int) / 2 := IntWalk.i64_in _ (by omega)
          clear hb hm
          go_wp2_with fail
          rename_i K0 hK0
          have HSB : Hid (∀ W, Below wr.heap.size wr W → W.rangeAt w.heap.size 0 (d.map bv)) := fun W hW => (HAr.out.below hW HAr.out.lt).range
          have HQW : Hid (∀ W, Below wr.heap.size wr W → RdD W.heap.size W aq P) := fun W hW => (HQr.out.below hW).mono hW.size
          have HLA : Hid ((([] : List (List UInt8)).length + P.length) * 32 ≤ 140737488355328) := by show _ ≤ _; simp; omega
          have HLB : Hid ((P.length + [d].length) * 32 ≤ 140737488355328) := by show _ ≤ _; simp; omega
          obtain ⟨LL, hLL⟩ : ∃ LL, LL = P ++ [d] := ⟨_, rfl⟩
          have hLl : LL.length = P.length + 1 := by rw [hLL]; simp
          have HLL := Lib.hid hLL
          clear hLL
          refine region_puts [72, 73, 74, 75, 76, 77, 78, 79, 80, 81, 82, 83, 84, 85, 86] (fun f W => ∃ g84 : Nat, f 84 = .slice (some ⟨g84, 0, none⟩) 3 3 ∧ f 85 = .int .i64 3 ∧ f 86 = .int .i64 0 ∧ g84 < W.heap.size ∧ (∀ k, k < 3 → ∃ (a : Option Addr) (c : Nat) (l : List (List UInt8)), W.cell? ⟨g84, k, none⟩ = some (.slice a l.length c) ∧ RdD W.heap.size W a l ∧ l.length ≤ c ∧ c ≤ maxLen ∧ l.length ≤ 6) ∧ Below wr.heap.size wr W) ?_ ?_
          rotate_left
          · clear hK0 K0
            have HB0 : Hid (Below wr.heap.size wr wr.drew) := (Below.refl _ _).drew
            refine wp_region_held_drew (S := fun w' => w'.rangeAt w.heap.size 0 (d.map bv)) (by kernel_rfl) (HSB.out _ HB0.out) (fun hHeld => ?_)
            refine wpAnyH_take (i := 0) (v := .slice aq P.length cq) rfl (by kernel_rfl) (by kernel_rfl) (by kernel_rfl) (fun _ _ _ h => nomatch h.1) (Or.inl ⟨by rfl, fun w _ => by go_simp⟩) hHeld ?_
            simp only [Act.put, List.getElem_toArray, List.getElem_cons_zero, List.getElem_cons_succ, List.setIfInBounds_toArray, List.set_cons_zero, List.set_cons_succ]
            refine wpAnyH_take (i := 2) (v := .slice aq P.length cq) rfl (by kernel_rfl) (by kernel_rfl) (by kernel_rfl) (fun _ _ _ h => nomatch h.1) (Or.inl ⟨by rfl, fun w _ => by go_simp⟩) hHeld ?_
            simp only [Act.put, List.getElem_toArray, List.getElem_cons_zero, List.getElem_cons_succ, List.setIfInBounds_toArray, List.set_cons_zero, List.set_cons_succ]
            refine wpAnyH_take (i := 4) (v := .agg (bvA d)) rfl (by kernel_rfl) (by kernel_rfl) (by kernel_rfl) (fun _ _ _ h => nomatch h.1) (yieldsIf_load_mid (by rfl) 26 (.tmp 7) rfl w.heap.size 0 rfl (d.map bv) _ (fun _ h => h) digest_und rfl HI.out) hHeld ?_
            simp only [Act.put, List.getElem_toArray, List.getElem_cons_zero, List.getElem_cons_succ, List.setIfInBounds_toArray, List.set_cons_zero, List.set_cons_succ]
            refine wpAnyH_take (i := 7) (v := .slice aq P.length cq) rfl (by kernel_rfl) (by kernel_rfl) (by kernel_rfl) (fun _ _ _ h => nomatch h.1) (Or.inl ⟨by rfl, fun w _ => by go_simp⟩) hHeld ?_
            simp only [Act.put, List.getElem_toArray, List.getElem_cons_zero, List.getElem_cons_succ, List.setIfInBounds_toArray, List.set_cons_zero, List.set_cons_succ]
            refine wpAnyH_take (i := 8) (v := .slice aq P.length cq) rfl (by kernel_rfl) (by kernel_rfl) (by kernel_rfl) (fun _ _ _ h => nomatch h.1) (Or.inl ⟨by rfl, fun w _ => by go_simp⟩) hHeld ?_
            simp only [Act.put, List.getElem_toArray, List.getElem_cons_zero, List.getElem_cons_succ, List.setIfInBounds_toArray, List.set_cons_zero, List.set_cons_succ]
            refine wpAnyH_take (i := 9) (v := .int .i64 P.length) rfl (by kernel_rfl) (by kernel_rfl) (by kernel_rfl) (fun _ _ _ h => nomatch h.1) (Or.inl ⟨by rfl, fun w _ => by go_simp⟩) hHeld ?_
            simp only [Act.put, List.getElem_toArray, List.getElem_cons_zero, List.getElem_cons_succ, List.setIfInBounds_toArray, List.set_cons_zero, List.set_cons_succ]
            refine wpAnyH_take (i := 10) (v := .int .i64 ((P.length : Int) / 2)) rfl (by kernel_rfl) (by kernel_rfl) (by kernel_rfl) (fun _ _ _ h => nomatch h.1) (Or.inl ⟨by rfl, fun w _ => by go_simp⟩) hHeld ?_
            simp only [Act.put, List.getElem_toArray, List.getElem_cons_zero, List.getElem_cons_succ, List.setIfInBounds_toArray, List.set_cons_zero, List.set_cons_succ]
            refine wpAnyH_take (i := 11) (v := .slice aq (P.length / 2) cq) rfl (by kernel_rfl) (by kernel_rfl) (by kernel_rfl) (fun _ _ _ h => nomatch h.1) (Or.inl ⟨by rfl, fun w _ => by go_simp⟩) hHeld ?_
            simp only [Act.put, List.getElem_toArray, List.getElem_cons_zero, List.getElem_cons_succ, List.setIfInBounds_toArray, List.set_cons_zero, List.set_cons_succ]
            refine wpAnyH_take (i := 14) (v := .int .i64 0) rfl (by kernel_rfl) (by kernel_rfl) (by kernel_rfl) (fun _ _ _ h => nomatch h.1) (Or.inl ⟨by rfl, fun w _ => by go_simp⟩) hHeld ?_
            simp only [Act.put, List.getElem_toArray, List.getElem_cons_zero, List.getElem_cons_succ, List.setIfInBounds_toArray, List.set_cons_zero, List.set_cons_succ]
            refine wpAnyH_ready (rs := [1, 5]) (by kernel_rfl) (by simp) ?_
            refine AllReadyH.cons rfl (fun K hK => ?_) ?_
            · rw [if_pos (by rfl)]
              refine wp_nilD rfl wr.heap.size HB0.out.size ?_
              intro W1 v1 ho hn hb
              have HO1 := Lib.hid ho
              have HE1 := Lib.hid (HB0.out.trans (hb.mono HB0.out.size))
              clear ho hn hb
              refine hK.out _ _ (HSB.out _ HE1.out) (fun hHeld => ?_)
              clear hK K
              try simp only [Act.put, List.getElem_toArray, List.getElem_cons_zero, List.getElem_cons_succ, List.setIfInBounds_toArray, List.set_cons_zero, List.set_cons_succ]
              refine wpAnyH_ready (rs := [3, 5]) (by kernel_rfl) (by simp) ?_
              refine AllReadyH.cons rfl (fun K hK => ?_) ?_
              · rw [if_pos (by rfl)]
                refine wp_appDn (.tmp 73) (.tmp 74) rfl wr.heap.size v1 [] P P.length aq cq (by rfl) (by rfl) rfl HO1.out (HQW.out _ HE1.out) HQ3.out HLA.out HE1.out.size ?_
                intro v2 W2 ho hg
                have HO2 : Hid (OwnD wr.heap.size W2 v2 P) := ho
                have HE2 := Lib.hid (HE1.out.trans (hg.below HO1.out.base HE1.out.size))
                clear ho hg
                refine hK.out _ _ (HSB.out _ HE2.out) (fun hHeld => ?_)
                clear hK K
                try simp only [Act.put, List.getElem_toArray, List.getElem_cons_zero, List.getElem_cons_succ, List.setIfInBounds_toArray, List.set_cons_zero, List.set_cons_succ]
                refine wpAnyH_ready (rs := [5]) (by kernel_rfl) (by simp) ?_
                refine AllReadyH.cons rfl (fun K hK => ?_) ?_
                · rw [if_pos (by rfl)]
                  refine wp_build1A (.tmp 76) rfl d HD.out rfl ?_
                  intro W3 gx hn hge hb
                  have HX3 := Lib.hid hn
                  have HNE : Hid (∀ k, v2.ownBlock = some k → k ≠ gx) := fun k hk => by have := HO2.out.lt k hk; omega
                  have HO3 := Lib.hid (HO2.out.below hb)
                  have HE3 := Lib.hid (HE2.out.trans (hb.mono HE2.out.size))
                  clear hn hge hb
                  refine hK.out _ _ (HSB.out _ HE3.out) (fun hHeld => ?_)
                  clear hK K
                  try simp only [Act.put, List.getElem_toArray, List.getElem_cons_zero, List.getElem_cons_succ, List.setIfInBounds_toArray, List.set_cons_zero, List.set_cons_succ]
                  refine wpAnyH_ready (rs := [6]) (by kernel_rfl) (by simp) (AllReadyH.cons rfl (fun K hK => ?_) AllReadyH.nil)
                  rw [if_pos (by rfl)]
                  refine wp_appDn (.tmp 75) (.tmp 77) rfl wr.heap.size v2 P [d] 1 (some ⟨gx, 0, none⟩) 1 (by rfl) (by rfl) rfl HO3.out (RdD.one HX3.out HD.out) (fun h => by cases h) HLB.out HE3.out.size ?_
                  intro v4 W4 ho hg
                  rw [← HLL.out] at ho
                  have HE4 := Lib.hid (HE3.out.trans (hg.below HO3.out.base HE3.out.size))
                  obtain ⟨a9, c9, rfl, hy1, hy2, hy3, hy4⟩ := ho.form
                  have HY4 := Lib.hid hy4
                  have HY2 := Lib.hid hy2
                  clear ho hg hy4 hy2 hy3
                  refine hK.out _ _ (HSB.out _ HE4.out) (fun hHeld => ?_)
                  clear hK K
                  try simp only [Act.put, List.getElem_toArray, List.getElem_cons_zero, List.getElem_cons_succ, List.setIfInBounds_toArray, List.set_cons_zero, List.set_cons_succ]
                  refine wpAnyH_ready (rs := [12]) (by kernel_rfl) (by simp) (AllReadyH.cons rfl (fun K hK => ?_) AllReadyH.nil)
                  rw [if_pos (by rfl)]
                  refine wp_build3 (.tmp 72) (.tmp 78) (.tmp 83) rfl aq a9 aq P.length LL.length (P.length / 2) cq c9 cq (by rfl) (by rfl) (by rfl) ?_
                  intro W49 g84 hn hge hb
                  have HE49 := Lib.hid (HE4.out.trans (hb.mono HE4.out.size))
                  have HN := Lib.hid hn
                  have HYb := Lib.hid ((HY4.out.below hb).mono hb.size)
                  clear hn hge hb
                  refine hK.out _ _ (HSB.out _ HE49.out) (fun hHeld => ?_)
                  clear hK K
                  try simp only [Act.put, List.getElem_toArray, List.getElem_cons_zero, List.getElem_cons_succ, List.setIfInBounds_toArray, List.set_cons_zero, List.set_cons_succ]
                  refine wpAnyH_take (i := 13) (v := .int .i64 3) rfl (by kernel_rfl) (by kernel_rfl) (by kernel_rfl) (fun _ _ _ h => nomatch h.1) (Or.inl ⟨by rfl, fun w _ => by go_simp⟩) hHeld ?_
                  simp only [Act.put, List.getElem_toArray, List.getElem_cons_zero, List.getElem_cons_succ, List.setIfInBounds_toArray, List.set_cons_zero, List.set_cons_succ]
                  refine wpAnyH_done (by kernel_rfl) ?_ _
                  refine ⟨rfl, puts_ex (by kernel_rfl) ⟨g84, by kernel_rfl, by kernel_rfl, by kernel_rfl, ?_, ?_, HE49.out⟩⟩
                  · exact (Array.getElem?_eq_some_iff.1 HN.out).1
                  · intro j hj
                    rw [cell_of_row _ _ _ _ _ _ HN.out]
                    have : j = 0 ∨ j = 1 ∨ j = 2 := by omega
                    rcases this with rfl | rfl | rfl
                    · exact ⟨aq, cq, P, rfl, HQW.out _ HE49.out, hq1, HQ2.out, by omega⟩
                    · exact ⟨a9, c9, LL, rfl, HYb.out, hy1, HY2.out, by omega⟩
                    · refine ⟨aq, cq, P.take (P.length / 2), ?_, (HQW.out _ HE49.out).take _, by rw [List.length_take]; omega, HQ2.out, by rw [List.length_take]; omega⟩
                      rw [List.length_take, Nat.min_eq_left (by omega)]; rfl
                exact AllReadyH.nil
              refine AllReadyH.cons rfl (fun K hK => ?_) ?_
              · rw [if_pos (by rfl)]
                refine wp_build1A (.tmp 76) rfl d HD.out rfl ?_
                intro W5 gx hn hge hb
                have HX5 := Lib.hid hn
                have HNE : Hid (∀ k, v1.ownBlock = some k → k ≠ gx) := fun k hk => by have := HO1.out.lt k hk; omega
                have HO5 := Lib.hid (HO1.out.below hb)
                have HE5 := Lib.hid (HE1.out.trans (hb.mono HE1.out.size))
                clear hn hge hb
                refine hK.out _ _ (HSB.out _ HE5.out) (fun hHeld => ?_)
                clear hK K
                try simp only [Act.put, List.getElem_toArray, List.getElem_cons_zero, List.getElem_cons_succ, List.setIfInBounds_toArray, List.set_cons_zero, List.set_cons_succ]
                refine wpAnyH_ready (rs := [3]) (by kernel_rfl) (by simp) ?_
                refine AllReadyH.cons rfl (fun K hK => ?_) ?_
                · rw [if_pos (by rfl)]
                  refine wp_appDn (.tmp 73) (.tmp 74) rfl wr.heap.size v1 [] P P.length aq cq (by rfl) (by rfl) rfl HO5.out (HQW.out _ HE5.out) HQ3.out HLA.out HE5.out.size ?_
                  intro v6 W6 ho hg
                  have HO6 : Hid (OwnD wr.heap.size W6 v6 P) := ho
                  have HE6 := Lib.hid (HE5.out.trans (hg.below HO5.out.base HE5.out.size))
                  have HX6 := Lib.hid (HX5.out.grownBy hg.grown (fun e => HNE.out _ e rfl))
                  clear ho hg
                  refine hK.out _ _ (HSB.out _ HE6.out) (fun hHeld => ?_)
                  clear hK K
                  try simp only [Act.put, List.getElem_toArray, List.getElem_cons_zero, List.getElem_cons_succ, List.setIfInBounds_toArray, List.set_cons_zero, List.set_cons_succ]
                  refine wpAnyH_ready (rs := [6]) (by kernel_rfl) (by simp) (AllReadyH.cons rfl (fun K hK => ?_) AllReadyH.nil)
                  rw [if_pos (by rfl)]
                  refine wp_appDn (.tmp 75) (.tmp 77) rfl wr.heap.size v6 P [d] 1 (some ⟨gx, 0, none⟩) 1 (by rfl) (by rfl) rfl HO6.out (RdD.one HX6.out HD.out) (fun h => by cases h) HLB.out HE6.out.size ?_
                  intro v7 W7 ho hg
                  rw [← HLL.out] at ho
                  have HE7 := Lib.hid (HE6.out.trans (hg.below HO6.out.base HE6.out.size))
                  obtain ⟨a9, c9, rfl, hy1, hy2, hy3, hy4⟩ := ho.form
                  have HY4 := Lib.hid hy4
                  have HY2 := Lib.hid hy2
                  clear ho hg hy4 hy2 hy3
                  refine hK.out _ _ (HSB.out _ HE7.out) (fun hHeld => ?_)
                  clear hK K
                  try simp only [Act.put, List.getElem_toArray, List.getElem_cons_zero, List.getElem_cons_succ, List.setIfInBounds_toArray, List.set_cons_zero, List.set_cons_succ]
                  refine wpAnyH_ready (rs := [12]) (by kernel_rfl) (by simp) (AllReadyH.cons rfl (fun K hK => ?_) AllReadyH.nil)
                  rw [if_pos (by rfl)]
                  refine wp_build3 (.tmp 72) (.tmp 78) (.tmp 83) rfl aq a9 aq P.length LL.length (P.length / 2) cq c9 cq (by rfl) (by rfl) (by rfl) ?_
                  intro W79 g84 hn hge hb
                  have HE79 := Lib.hid (HE7.out.trans (hb.mono HE7.out.size))
                  have HN := Lib.hid hn
                  have HYb := Lib.hid ((HY4.out.below hb).mono hb.size)
                  clear hn hge hb
                  refine hK.out _ _ (HSB.out _ HE79.out) (fun hHeld => ?_)
                  clear hK K
                  try simp only [Act.put, List.getElem_toArray, List.getElem_cons_zero, List.getElem_cons_succ, List.setIfInBounds_toArray, List.set_cons_zero, List.set_cons_succ]
                  refine wpAnyH_take (i := 13) (v := .int .i64 3) rfl (by kernel_rfl) (by kernel_rfl) (by kernel_rfl) (fun _ _ _ h => nomatch h.1) (Or.inl ⟨by rfl, fun w _ => by go_simp⟩) hHeld ?_
                  simp only [Act.put, List.getElem_toArray, List.getElem_cons_zero, List.getElem_cons_succ, List.setIfInBounds_toArray, List.set_cons_zero, List.set_cons_succ]
                  refine wpAnyH_done (by kernel_rfl) ?_ _
                  refine ⟨rfl, puts_ex (by kernel_rfl) ⟨g84, by kernel_rfl, by kernel_rfl, by kernel_rfl, ?_, ?_, HE79.out⟩⟩
                  · exact (Array.getElem?_eq_some_iff.1 HN.out).1
                  · intro j hj
                    rw [cell_of_row _ _ _ _ _ _ HN.out]
                    have : j = 0 ∨ j = 1 ∨ j = 2 := by omega
                    rcases this with rfl | rfl | rfl
                    · exact ⟨aq, cq, P, rfl, HQW.out _ HE79.out, hq1, HQ2.out, by omega⟩
                    · exact ⟨a9, c9, LL, rfl, HYb.out, hy1, HY2.out, by omega⟩
                    · refine ⟨aq, cq, P.take (P.length / 2), ?_, (HQW.out _ HE79.out).take _, by rw [List.length_take]; omega, HQ2.out, by rw [List.length_take]; omega⟩
                      rw [List.length_take, Nat.min_eq_left (by omega)]; rfl
                exact AllReadyH.nil
              exact AllReadyH.nil
            refine AllReadyH.cons rfl (fun K hK => ?_) ?_
            · rw [if_pos (by rfl)]
              refine wp_build1A (.tmp 76) rfl d HD.out rfl ?_
              intro W8 gx hn hge hb
              have HX8 := Lib.hid hn
              have HE8 := Lib.hid (HB0.out.trans (hb.mono HB0.out.size))
              clear hn hge hb
              refine hK.out _ _ (HSB.out _ HE8.out) (fun hHeld => ?_)
              clear hK K
              try simp only [Act.put, List.getElem_toArray, List.getElem_cons_zero, List.getElem_cons_succ, List.setIfInBounds_toArray, List.set_cons_zero, List.set_cons_succ]
              refine wpAnyH_ready (rs := [1]) (by kernel_rfl) (by simp) ?_
              refine AllReadyH.cons rfl (fun K hK => ?_) ?_
              · rw [if_pos (by rfl)]
                refine wp_nilD rfl wr.heap.size HE8.out.size ?_
                intro W9 v9 ho hn hb
                have HO9 := Lib.hid ho
                have HX9 := Lib.hid (HX8.out.below hb HX8.out.lt)
                have HNE : Hid (∀ k, v9.ownBlock = some k → k ≠ gx) := fun k hk => by have := hn k hk; have := HX8.out.lt; omega
                have HE9 := Lib.hid (HE8.out.trans (hb.mono HE8.out.size))
                clear ho hn hb
                refine hK.out _ _ (HSB.out _ HE9.out) (fun hHeld => ?_)
                clear hK K
                try simp only [Act.put, List.getElem_toArray, List.getElem_cons_zero, List.getElem_cons_succ, List.setIfInBounds_toArray, List.set_cons_zero, List.set_cons_succ]
                refine wpAnyH_ready (rs := [3]) (by kernel_rfl) (by simp) ?_
                refine AllReadyH.cons rfl (fun K hK => ?_) ?_
                · rw [if_pos (by rfl)]
                  refine wp_appDn (.tmp 73) (.tmp 74) rfl wr.heap.size v9 [] P P.length aq cq (by rfl) (by rfl) rfl HO9.out (HQW.out _ HE9.out) HQ3.out HLA.out HE9.out.size ?_
                  intro v10 W10 ho hg
                  have HO10 : Hid (OwnD wr.heap.size W10 v10 P) := ho
                  have HE10 := Lib.hid (HE9.out.trans (hg.below HO9.out.base HE9.out.size))
                  have HX10 := Lib.hid (HX9.out.grownBy hg.grown (fun e => HNE.out _ e rfl))
                  clear ho hg
                  refine hK.out _ _ (HSB.out _ HE10.out) (fun hHeld => ?_)
                  clear hK K
                  try simp only [Act.put, List.getElem_toArray, List.getElem_cons_zero, List.getElem_cons_succ, List.setIfInBounds_toArray, List.set_cons_zero, List.set_cons_succ]
                  refine wpAnyH_ready (rs := [6]) (by kernel_rfl) (by simp) (AllReadyH.cons rfl (fun K hK => ?_) AllReadyH.nil)
                  rw [if_pos (by rfl)]
                  refine wp_appDn (.tmp 75) (.tmp 77) rfl wr.heap.size v10 P [d] 1 (some ⟨gx, 0, none⟩) 1 (by rfl) (by rfl) rfl HO10.out (RdD.one HX10.out HD.out) (fun h => by cases h) HLB.out HE10.out.size ?_
                  intro v11 W11 ho hg
                  rw [← HLL.out] at ho
                  have HE11 := Lib.hid (HE10.out.trans (hg.below HO10.out.base HE10.out.size))
                  obtain ⟨a9, c9, rfl, hy1, hy2, hy3, hy4⟩ := ho.form
                  have HY4 := Lib.hid hy4
                  have HY2 := Lib.hid hy2
                  clear ho hg hy4 hy2 hy3
                  refine hK.out _ _ (HSB.out _ HE11.out) (fun hHeld => ?_)
                  clear hK K
                  try simp only [Act.put, List.getElem_toArray, List.getElem_cons_zero, List.getElem_cons_succ, List.setIfInBounds_toArray, List.set_cons_zero, List.set_cons_succ]
                  refine wpAnyH_ready (rs := [12]) (by kernel_rfl) (by simp) (AllReadyH.cons rfl (fun K hK => ?_) AllReadyH.nil)
                  rw [if_pos (by rfl)]
                  refine wp_build3 (.tmp 72) (.tmp 78) (.tmp 83) rfl aq a9 aq P.length LL.length (P.length / 2) cq c9 cq (by rfl) (by rfl) (by rfl) ?_
                  intro W119 g84 hn hge hb
                  have HE119 := Lib.hid (HE11.out.trans (hb.mono HE11.out.size))
                  have HN := Lib.hid hn
                  have HYb := Lib.hid ((HY4.out.below hb).mono hb.size)
                  clear hn hge hb
                  refine hK.out _ _ (HSB.out _ HE119.out) (fun hHeld => ?_)
                  clear hK K
                  try simp only [Act.put, List.getElem_toArray, List.getElem_cons_zero, List.getElem_cons_succ, List.setIfInBounds_toArray, List.set_cons_zero, List.set_cons_succ]
                  refine wpAnyH_take (i := 13) (v := .int .i64 3) rfl (by kernel_rfl) (by kernel_rfl) (by kernel_rfl) (fun _ _ _ h => nomatch h.1) (Or.inl ⟨by rfl, fun w _ => by go_simp⟩) hHeld ?_
                  simp only [Act.put, List.getElem_toArray, List.getElem_cons_zero, List.getElem_cons_succ, List.setIfInBounds_toArray, List.set_cons_zero, List.set_cons_succ]
                  refine wpAnyH_done (by kernel_rfl) ?_ _
                  refine ⟨rfl, puts_ex (by kernel_rfl) ⟨g84, by kernel_rfl, by kernel_rfl, by kernel_rfl, ?_, ?_, HE119.out⟩⟩
                  · exact (Array.getElem?_eq_some_iff.1 HN.out).1
                  · intro j hj
                    rw [cell_of_row _ _ _ _ _ _ HN.out]
                    have : j = 0 ∨ j = 1 ∨ j = 2 := by omega
                    rcases this with rfl | rfl | rfl
                    · exact ⟨aq, cq, P, rfl, HQW.out _ HE119.out, hq1, HQ2.out, by omega⟩
                    · exact ⟨a9, c9, LL, rfl, HYb.out, hy1, HY2.out, by omega⟩
                    · refine ⟨aq, cq, P.take (P.length / 2), ?_, (HQW.out _ HE119.out).take _, by rw [List.length_take]; omega, HQ2.out, by rw [List.length_take]; omega⟩
                      rw [List.length_take, Nat.min_eq_left (by omega)]; rfl
                exact AllReadyH.nil
              exact AllReadyH.nil
            exact AllReadyH.nil
          rintro f we ⟨g84, hf84, hf85, hf86, hg84, hcell, hbe⟩
          refine hK0 _ _ ?_
          clear hK0 K0
          simp only [puts, List.foldl, Act.put, List.setIfInBounds_toArray, List.set_cons_zero, List.set_cons_succ, hf84, hf85, hf86]
          have HCe := Lib.hid hcell
          have HBe := Lib.hid hbe
          have HAe := Lib.hid (HAr.out.below hbe HAr.out.lt)
          have HB6e := Lib.hid (HB6d.out.trans ((HB2r.out.trans (hbe.mono HB2r.out.size)).mono HB6d.out.size))
          have HWe := Lib.hid (HW6.out.trans (HB6e.out.mono HW6.out.size))
          clear hf84 hf85 hf86 hcell hbe HSB HQW HLA HLB HLL hLl HAr HQr hsh hwq
          go_wp2_with fail
          go_loopw [86] (fun i wr => ∃ k : Nat, k ≤ 3 ∧ i = .int .i64 k ∧ Below we.heap.size we wr) (fun i _ => 3 - (intOf i).toNat)
          case atStart => exact ⟨0, by omega, rfl, Below.refl _ _⟩
          case round =>
            obtain ⟨k3, hk3, rfl, hb⟩ := hrel
            have HB3r := Lib.hid hb
            by_cases hlt4 : k3 < 3
            · obtain ⟨a3, c3, l3, hc3, hr3, hl3, hm3, hs3⟩ := HCe.out k3 hlt4
              have hcr := (hb.cell (p := ⟨g84, k3, none⟩) hg84).trans hc3
              have HRr := Lib.hid ((RdD.below hr3 hb).mono hb.size)
              have HAr := Lib.hid (HAe.out.below hb HAe.out.lt)
              have HWr3 := Lib.hid (HWe.out.trans (hb.mono HWe.out.size))
              have HM3 := Lib.hid hm3
              have hk30 : (0 : Int) ≤ (k3 : Int) := by omega
              have hk31 : (k3 : Int) < 3 := by omega
              obtain ⟨X, hX⟩ : ∃ X, X = (climbR d i m l3).1 := ⟨_, rfl⟩
              obtain ⟨ke, hke⟩ : ∃ ke, ke = (climbR d i m l3).2 := ⟨_, rfl⟩
              have hX32 : X.length = 32 := by rw [hX]; exact climbR_len _ _ _ _
              have c5 : Hid (Calls Tryd.prog 22 #[.agg (bvA d), .int .i64 i, .int .i64 m, .slice a3 l3.length c3] wr (DigErr wr X ke)) := by
                rw [hX, hke]; exact Climb_all d i m a3 c3 l3 wr HD.out (HT.out.below HWr3.out hlt) HRr.out hl3 HM3.out (by omega)
              have c6 : Hid (∀ W, Below wr.heap.size wr W → Calls Tryd.prog 23 #[.agg (bvA d), .int .i64 i, .int .i64 m, .slice a3 l3.length c3] W (DigErr W X ke)) := fun W hW => by
                rw [hX, hke]; exact refClimb_all d i m a3 c3 l3 W HD.out ((HRr.out.below hW).mono hW.size) hl3 HM3.out (by omega)
              have HIX : Hid ((Tryd.prog.info? 26).map (·.size) = some (X.map bv).length) := by show _ = _; rw [List.length_map, hX32]; exact sha_size
              have HSX : Hid ((Tryd.prog.info? 26).map (·.size) = some (bvA X).size) := by show _ = _; rw [bvA_size, hX32]; exact sha_size
              have HOX : Hid ((bvA (List.replicate 32 0)).size = (bvA X).size) := by show _ = _; rw [bvA_size, bvA_size, hX32, List.length_replicate]
              have heq : ∀ W, (Op.equalIn 10000 26 (.agg (List.map bv X).toArray) (.agg (List.map bv X).toArray)).run Tryd.prog W = .ok true W := equal_same X hX32
              have fe : (ke != ke) = false := by simp
              clear hb hc3 hr3 hm3 hX hke hX32
              go_wp2_with (refine wpList_load_mid rfl 26 (.tmp 7) rfl w.heap.size 0 rfl (d.map bv) _ HAr.out.range digest_und rfl HI.out ?_)
              refine c5.out.mono ?_
              rintro e wf ⟨rfl, hbf⟩
              have HBf := Lib.hid hbf
              clear hbf
              go_wp2_with (refine wpList_storeA rfl 26 (.tmp 20) (.tmp 96) rfl wf.heap.size (bvA X) rfl rfl 26 (bvA (List.replicate 32 0)) (heap_alloc_new wf _) HSX.out HOX.out (bvA_one _) ?_)
              intro wg hg9 hgg
              have hBg : Below wf.heap.size wf wg := grown_below ((Below.refl _ _).alloc (Nat.le_refl _) _) hgg (Nat.le_refl _) (by simp)
              have HX1 : Hid (BB wg wf.heap.size 26 X) := hg9
              have HBg := Lib.hid (HBf.out.trans (hBg.mono HBf.out.size))
              have HAg := Lib.hid (HAr.out.below HBg.out HAr.out.lt)
              clear hg9 hgg hBg
              go_wp2_with (refine wpList_load_mid rfl 26 (.tmp 7) rfl w.heap.size 0 rfl (d.map bv) _ HAg.out.range digest_und rfl HI.out ?_)
              refine (c6.out wg HBg.out).mono ?_
              rintro e wh ⟨rfl, hbh⟩
              have HX2 := Lib.hid (HX1.out.below hbh HX1.out.lt)
              have HBh := Lib.hid (HBg.out.trans (hbh.mono HBg.out.size))
              clear hbh
              go_wp2_with (refine wpList_storeA rfl 26 (.tmp 22) (.tmp 104) rfl wh.heap.size (bvA X) rfl rfl 26 (bvA (List.replicate 32 0)) (heap_alloc_new wh _) HSX.out HOX.out (bvA_one _) ?_)
              intro wi hi9 hgi
              have hBi : Below wh.heap.size wh wi := grown_below ((Below.refl _ _).alloc (Nat.le_refl _) _) hgi (Nat.le_refl _) (by simp)
              have HY1 : Hid (BB wi wh.heap.size 26 X) := hi9
              have HX3 := Lib.hid (HX2.out.below hBi HX2.out.lt)
              have HBi := Lib.hid (HB3r.out.trans ((HBh.out.trans (hBi.mono HBh.out.size)).mono HB3r.out.size))
              clear hi9 hgi hBi HBh HBg HBf
              go_wp2_with (first | (refine wpList_load_mid rfl 26 (.tmp 20) rfl wf.heap.size 0 rfl (X.map bv) _ HX3.out.range digest_und rfl HIX.out ?_) | (refine wpList_load_mid rfl 26 (.tmp 22) rfl wh.heap.size 0 rfl (X.map bv) _ HY1.out.range digest_und rfl HIX.out ?_))
              go_roundw
              case rel => exact ⟨k3 + 1, by omega, by go_num, HBi.out⟩
              case measure => simp [intOf]; omega
            · obtain rfl : k3 = 3 := by omega
              go_wp2_with fail
              go_roundw
              case rel => exact ⟨k2 + 1, by omega, by go_num, (HB2r.out.trans (HBe.out.mono HB2r.out.size)).trans (HB3r.out.mono (Nat.le_trans HB2r.out.size HBe.out.size))⟩
              case measure => simp [intOf]; omega
        · obtain rfl : k2 = 2 := by omega
          go_wp2_with fail
          go_roundw
          case rel => exact ⟨k + 1, by omega, by go_num, HB6d.out.trans (HB2r.out.mono HB6d.out.size)⟩
          case measure => simp [intOf]; omega
    · obtain rfl : k = 2 := by omega
      go_wp2_with fail
      go_ret
      exact ⟨rfl, HWr.out⟩

end Go.Proofs.YtndbhmipehpebaaDoor
