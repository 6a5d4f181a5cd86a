/-
  The walk of chartroomlaw02.DigestSumSpec.
-/
import Derived.Test.YtndbhmipehpebaaDoorRtg
namespace Go.Proofs.YtndbhmipehpebaaDoor
open Go.RowKit
set_option linter.unusedVariables false
set_option linter.unusedSimpArgs false

theorem run_makeBn (n : Nat) (hn : n ≤ 140737488355328) (W : World) : (Instr.makeSlice 22 (.int .i64 (n : Int)) (.int .i64 (n : Int))).run Tryd.prog W = .ok (.slice (some ⟨W.heap.size, 0, none⟩) n n) (W.alloc (.cells (bvA (List.replicate n 0)) 5)) := by
  obtain ⟨i0, hi, hz0, hz1, hz2⟩ := info_parts byteInfo
  have h := run_make (P := Tryd.prog) W 22 5 i0 (.int .u8 0) Tryd.underlying22 hi hz0 .i64 .i64 (n : Int) (n : Int) (by omega) (by omega) (by rw [hz2]; omega) (by omega)
  rw [hz1, Int.toNat_natCast, Nat.mul_one] at h
  have e : madeCells (Value.int .u8 0).cells n = bvA (List.replicate n 0) := by
    apply Array.ext'
    rw [show (Value.int .u8 0).cells = #[.int .u8 0] from rfl, toList_madeCells_one]
    simp [bvA, bv]
  rw [e] at h
  exact h

theorem wpList_storeB {ops : Array Oper} {rest : List Oper} {op : Oper} {a : Act} {w : World} {Q : Exit → Act → World → Prop} (hgd : op.guard = none) (x y : Operand) (ho : op.op = .store 5 x y)
    (g i : Nat) (v : Int) (c : UInt8) (l : List UInt8) (hx : a.eval x = .pointer (some ⟨g, i, none⟩)) (hy : a.eval y = .int .u8 v) (hv : v = (c.toNat : Int)) (hI : BB w g 5 l) (hi : i < l.length)
    (h : ∀ w', BB w' g 5 (l.set i c) → w.grownBy w' (some g) → wpList Tryd.prog ops Q rest (a.put op.dst undef) w') : wpList Tryd.prog ops Q (op :: rest) a w :=
  wpList_plain hgd fun _ hK => by
    subst hv
    have c1 := hI.cell i hi
    have c2 := hI.frozen i
    have hh := hK _ _ (h _ (hI.set_ i c) ⟨rfl, rfl, rfl, by simp [World.setCell], fun k hk hn => Below.heap_setCell _ _ _ _ (fun e => hn (by rw [e]))⟩)
    unfold Oper.wp execOp
    simp only [ho, hx, hy]
    go_simp
    exact hh
theorem byteOfInt (v : Int) (h0 : 0 ≤ v) (h : v ≤ 255) : ∃ c : UInt8, v = (c.toNat : Int) := ⟨UInt8.ofNat v.toNat, by
  have : (UInt8.ofNat v.toNat).toNat = v.toNat := by simp; omega
  rw [this]; omega⟩

set_option maxRecDepth 100000 in
set_option maxHeartbeats 6400000 in
theorem sumSpec_walk (a : Option Addr) (cap : Nat) (l : List UInt8) (s : ByteArray) (y : Nat) (w : World) (hT : Tab w) (hl : RdB w.heap.size w a l) (hcap : l.length ≤ cap) (hc2 : cap ≤ maxLen) (hnil : a = none → cap = 0) (hs : s.size ≤ maxLen) (hy : y ≤ 255) :
    Calls Tryd.prog 3 #[.slice a l.length cap, .string s, .int .u8 y] w fun e w' => e = .returned (.bool true) ∧ Below w.heap.size w w' := by
  have HT := Lib.hid hT
  have HL := Lib.hid hl
  have HC2 := Lib.hid hc2
  have HN := Lib.hid hnil
  have hlt := HT.out.lt
  clear hT hl hnil
  unfold maxLen at hc2 hs
  by_cases h1 : 300 < l.length
  · have f1 : decide (300 < (l.length : Int)) = true := decide_eq_true (by omega)
    go_enter Tryd.func3, Tryd.ntmps3
    go_wp2_with fail
    refine (sane_any w HT.out).mono ?_
    rintro e w1 ⟨rfl, hb1⟩
    go_wp2_with fail
    go_ret
    exact ⟨rfl, hb1⟩
  by_cases h2 : 300 < s.size
  · have f1 : decide (300 < (l.length : Int)) = false := decide_eq_false (by omega)
    have f2 : decide (300 < s.size) = true := decide_eq_true h2
    have f2' : decide (300 < (s.size : Int)) = true := decide_eq_true (by omega)
    go_enter Tryd.func3, Tryd.ntmps3
    go_wp2_with fail
    refine (sane_any w HT.out).mono ?_
    rintro e w1 ⟨rfl, hb1⟩
    go_wp2_with fail
    go_ret
    exact ⟨rfl, hb1⟩
  have f1 : decide (300 < (l.length : Int)) = false := decide_eq_false (by omega)
  have f2 : decide (300 < s.size) = false := decide_eq_false h2
  have f2' : decide (300 < (s.size : Int)) = false := decide_eq_false (by omega)
  have c1 : IntKind.i64.wrap ((y : Int) + 1) = (y : Int) + 1 := by rw [IntKind.wrap_i64]; omega
  have c0 : IntKind.i64.wrap (y : Int) = (y : Int) := by rw [IntKind.wrap_i64]; omega
  have hmk : ∀ W : World, (Instr.makeSlice 22 (.int .i64 ((y : Int) + 1)) (.int .i64 ((y : Int) + 1))).run Tryd.prog W = .ok (.slice (some ⟨W.heap.size, 0, none⟩) (y + 1) (y + 1)) (W.alloc (.cells (bvA (List.replicate (y + 1) 0)) 5)) := run_makeBn (y + 1) (by omega)
  go_enter Tryd.func3, Tryd.ntmps3
  go_wp2_with fail
  refine (sane_any w HT.out).mono ?_
  rintro e w1 ⟨rfl, hb1⟩
  have HB1 := Lib.hid hb1
  clear hb1
  go_wp2_with fail
  have HM1 : Hid (BB (w1.alloc (.cells (bvA (List.replicate (y + 1) 0)) 5)) w1.heap.size 5 (List.replicate (y + 1) 0)) := BB.new w1 _ _
  have HBA := Lib.hid (HB1.out.alloc HB1.out.size (.cells (bvA (List.replicate (y + 1) 0)) 5))
  have HGE : Hid (w.heap.size ≤ w1.heap.size) := HB1.out.size
  clear hmk HB1
  generalize w1.alloc (.cells (bvA (List.replicate (y + 1) 0)) 5) = w2 at *
  generalize w1.heap.size = gM at *
  go_wp2_with fail
  go_loopw [27] (fun i wr => ∃ k : Nat, k ≤ y + 1 ∧ i = .int .i64 k ∧ ∃ L : List UInt8, L.length = y + 1 ∧ BB wr gM 5 L ∧ Below w.heap.size w wr) (fun i _ => y + 1 - (intOf i).toNat)
  case atStart => exact ⟨0, Nat.zero_le _, rfl, _, List.length_replicate, HM1.out, HBA.out⟩
  case round =>
    clear HM1 HBA
    obtain ⟨k, hk, rfl, L, hLl, hM, hB⟩ := hrel
    have HM := Lib.hid hM
    have HB := Lib.hid hB
    have HLL := Lib.hid hLl
    clear hM hB hLl
    by_cases hlt2 : k < y + 1
    · have g0 : decide ((k : Int) < (y : Int) + 1) = true := decide_eq_true (by omega)
      have hkI : (k : Int) ≤ (y : Int) := by omega
      have hkL : k < L.length := by rw [HLL.out]; exact hlt2
      have ck : IntKind.i64.wrap ((k : Int) + 1) = (k : Int) + 1 := by rw [IntKind.wrap_i64]; omega
      obtain ⟨c, hc⟩ := byteOfInt (k : Int) (by omega) (by omega)
      have HCc := Lib.hid hc
      clear hc
      by_cases hl0 : l.length = 0
      · have g1 : decide (0 < l.length) = false := decide_eq_false (by omega)
        have HL0 := Lib.hid hl0
        clear hl0
        go_wp2_with (refine wpList_storeB rfl (.tmp 34) (.tmp 33) rfl gM k (k : Int) c L rfl (by rfl) HCc.out HM.out hkL ?_; intro w3 hM3 hg3; have HM3 := Lib.hid hM3; have HB3 := Lib.hid (grown_below HB.out hg3 HGE.out HB.out.size); clear hM3 hg3)
        go_roundw
        case rel => exact ⟨k + 1, by omega, by go_num, _, by rw [List.length_set]; exact HLL.out, HM3.out, HB3.out⟩
        case measure => simp [intOf]; omega
      · have g1 : decide (0 < l.length) = true := decide_eq_true (by omega)
        obtain ⟨r, hr⟩ : ∃ r, k % l.length = r := ⟨_, rfl⟩
        have hrl : r < l.length := by rw [← hr]; exact Nat.mod_lt _ (by omega)
        have hrem : ((k : Int)).tmod (l.length : Int) = (r : Int) := by rw [Int.tmod_eq_emod_of_nonneg (by omega), ← hr]; simp
        have hl0' : ((l.length : Int) == 0) = false := by rw [beq_eq_false_iff_ne]; omega
        obtain ⟨b, o, ha, hbB, hcell⟩ : ∃ b o, a = some ⟨b, o, none⟩ ∧ b < w.heap.size ∧ ∀ j (h : j < l.length), w.cell? ⟨b, o + j, none⟩ = some (bv l[j]) := by
          rcases HL.out.2 with h | h
          · rw [h] at hl0; exact absurd rfl hl0
          · exact h
        subst ha
        obtain ⟨cb, hcb⟩ : ∃ cb, l[r] = cb := ⟨_, rfl⟩
        have hlc := hcell r hrl
        rw [hcb] at hlc
        have HLC := Lib.hid hlc
        have hlI : (r : Int) < (l.length : Int) := by omega
        clear hr hl0 hcell hcb hlc
        go_wp2_with (first
          | (refine wpList_storeB rfl (.tmp 34) (.tmp 33) rfl gM k (k : Int) c L rfl (by rfl) HCc.out HM.out hkL ?_; intro w3 hM3 hg3; have HM3 := Lib.hid hM3; have hB3 := grown_below HB.out hg3 HGE.out HB.out.size; have HB3 := Lib.hid hB3; have hx3 : w3.cell? ⟨b, o + r, none⟩ = some (.int .u8 (cb.toNat : Int)) := (hB3.cell (p := ⟨b, o + r, none⟩) hbB).trans HLC.out; clear hM3 hg3 hB3)
          | (refine wpList_storeB rfl (.tmp 47) (.tmp 46) rfl gM k (cb.toNat : Int) cb _ rfl (by rfl) rfl HM3.out (by rw [List.length_set]; exact hkL) ?_; intro w4 hM4 hg4; have HM4 := Lib.hid hM4; have HB4 := Lib.hid (grown_below HB3.out hg4 HGE.out HB3.out.size); clear hM4 hg4 hx3))
        go_roundw
        case rel => exact ⟨k + 1, by omega, by go_num, _, by rw [List.length_set, List.length_set]; exact HLL.out, HM4.out, HB4.out⟩
        case measure => simp [intOf]; omega
    · obtain rfl : k = y + 1 := by omega
      have g0 : decide (((y + 1 : Nat) : Int) < (y : Int) + 1) = false := decide_eq_false (by omega)
      have hR := HL.out.below HB.out
      have HG : Hid (gM < wr.heap.size) := HM.out.lt
      have HX0 : Hid ((wr.alloc (.cells #[.slice a l.length cap, .slice (some ⟨gM, 0, none⟩) (y + 1) (y + 1)] 22)).cell? ⟨wr.heap.size, 0, none⟩ = some (.slice a l.length cap)) := by show _ = _; exact cell_of_row _ _ _ _ _ _ (heap_alloc_new wr _)
      have HX1 : Hid ((wr.alloc (.cells #[.slice a l.length cap, .slice (some ⟨gM, 0, none⟩) (y + 1) (y + 1)] 22)).cell? ⟨wr.heap.size, 1, none⟩ = some (.slice (some ⟨gM, 0, none⟩) (y + 1) (y + 1))) := by show _ = _; exact cell_of_row _ _ _ _ _ _ (heap_alloc_new wr _)
      have HMA := Lib.hid (HM.out.alloc (.cells #[.slice a l.length cap, .slice (some ⟨gM, 0, none⟩) (y + 1) (y + 1)] 22))
      have HBA := Lib.hid (HB.out.alloc HB.out.size (.cells #[.slice a l.length cap, .slice (some ⟨gM, 0, none⟩) (y + 1) (y + 1)] 22))
      have HZA : Hid (wr.heap.size < (wr.alloc (.cells #[.slice a l.length cap, .slice (some ⟨gM, 0, none⟩) (y + 1) (y + 1)] 22)).heap.size) := by show _ < _; simp
      clear hR HM HB HG
      go_wp2_with fail
      generalize wr.alloc (.cells #[.slice a l.length cap, .slice (some ⟨gM, 0, none⟩) (y + 1) (y + 1)] 22) = wA at *
      generalize wr.heap.size = gA at *
      have HGL : Hid (gM < wA.heap.size) := HMA.out.lt
      go_loopw [53] (fun i w' => ∃ j : Nat, j ≤ 2 ∧ i = .int .i64 j ∧ Below wA.heap.size wA w') (fun i _ => 2 - (intOf i).toNat)
      case atStart => exact ⟨0, by omega, rfl, Below.refl _ _⟩
      case round =>
        obtain ⟨j, hj, rfl, hbj⟩ := hrel
        have HBJ := Lib.hid hbj
        clear hbj
        by_cases hj2 : j < 2
        · have gj : decide ((j : Int) < 2) = true := decide_eq_true (by omega)
          have hjI : (j : Int) < 2 := by omega
          have hBAJ := HBA.out.trans (HBJ.out.mono HBA.out.size)
          obtain ⟨aj, Lj, cpj, hcj, hrj, hcap1, hcap2, hnj, hl300⟩ : ∃ (aj : Option Addr) (Lj : List UInt8) (cpj : Nat), wr.cell? ⟨gA, j, none⟩ = some (.slice aj Lj.length cpj) ∧ RdB wr.heap.size wr aj Lj ∧ Lj.length ≤ cpj ∧ cpj ≤ maxLen ∧ (aj = none → cpj = 0) ∧ Lj.length ≤ 300 := by
            have hj01 : j = 0 ∨ j = 1 := by omega
            rcases hj01 with rfl | rfl
            · exact ⟨a, l, cap, (HBJ.out.cell (p := ⟨gA, 0, none⟩) HZA.out).trans HX0.out, (HL.out.below hBAJ).mono hBAJ.size, hcap, HC2.out, HN.out, by omega⟩
            · refine ⟨some ⟨gM, 0, none⟩, L, y + 1, ?_, (HMA.out.below HBJ.out HGL.out).rdB (by rw [HLL.out]; unfold maxLen; omega), by rw [HLL.out]; exact Nat.le_refl _, by unfold maxLen; omega, (fun h => by cases h), by rw [HLL.out]; omega⟩
              rw [HLL.out]
              exact (HBJ.out.cell (p := ⟨gA, 1, none⟩) HZA.out).trans HX1.out
          obtain ⟨S, hS⟩ : ∃ S, sha Lj = S := ⟨_, rfl⟩
          obtain ⟨T, hTg⟩ : ∃ T, tagS s.data.toList Lj = T := ⟨_, rfl⟩
          have hTW : ∀ W, Below wr.heap.size wr W → Tab W := fun W hW => HT.out.below (hBAJ.trans (hW.mono hBAJ.size)) hlt
          have k1 : Hid (∀ W, Below wr.heap.size wr W → Calls Tryd.prog 12 #[.slice aj Lj.length cpj] W fun e w2 => e = .returned (.agg (bvA S)) ∧ Below W.heap.size W w2) := by
            intro W hW; rw [← hS]; exact sum_any aj cpj Lj W (hTW W hW) ((hrj.below hW).mono hW.size) hcap1 hcap2 (by omega)
          have k2 : Hid (∀ W, Below wr.heap.size wr W → Calls Tryd.prog 13 #[.slice aj Lj.length cpj] W fun e w2 => e = .returned (.agg (bvA S)) ∧ Below W.heap.size W w2) := by
            intro W hW; rw [← hS]; exact refSum aj cpj Lj W ((hrj.below hW).mono hW.size) hcap1 hcap2 hnj (by omega)
          have k3 : Hid (∀ W, Below wr.heap.size wr W → Calls Tryd.prog 14 #[.string s, .slice aj Lj.length cpj] W fun e w2 => e = .returned (.agg (bvA T)) ∧ Below W.heap.size W w2) := by
            intro W hW; rw [← hTg]; exact Tagged_any s aj cpj Lj W (hTW W hW) ((hrj.below hW).mono hW.size) hcap1 hcap2 (by omega) (by omega)
          have k4 : Hid (∀ W, Below wr.heap.size wr W → Calls Tryd.prog 15 #[.string s, .slice aj Lj.length cpj] W fun e w2 => e = .returned (.agg (bvA T)) ∧ Below W.heap.size W w2) := by
            intro W hW; rw [← hTg]; exact refTagged s aj cpj Lj W ((hrj.below hW).mono hW.size) hcap1 hcap2 hnj (by omega) (by omega)
          have heqS : ∀ W, (Op.equalIn 10000 26 (.agg (bvA S)) (.agg (bvA S))).run Tryd.prog W = .ok true W := equal_same S (by rw [← hS]; exact sha_len _)
          have heqT : ∀ W, (Op.equalIn 10000 26 (.agg (bvA T)) (.agg (bvA T))).run Tryd.prog W = .ok true W := equal_same T (by rw [← hTg]; exact tagS_len _ _)
          have hqg : Tryd.prog.eqGuardType Tryd.prog.depth 26 = false := by kernel_rfl
          have HBW := Lib.hid (Below.refl wr.heap.size wr)
          clear hS hTg hTW hrj hcap1 hcap2 hnj hl300 hBAJ
          generalize Lj.length = nj at *
          go_wp2_with (first
            | (go_at_call 12; refine (k1.out _ HBW.out).mono ?_; rintro e w4 ⟨rfl, hb⟩; have HBW := Lib.hid (HBW.out.trans (hb.mono HBW.out.size)); clear hb)
            | (go_at_call 13; refine (k2.out _ HBW.out).mono ?_; rintro e w5 ⟨rfl, hb⟩; have HBW := Lib.hid (HBW.out.trans (hb.mono HBW.out.size)); clear hb)
            | (go_at_call 14; refine (k3.out _ HBW.out).mono ?_; rintro e w6 ⟨rfl, hb⟩; have HBW := Lib.hid (HBW.out.trans (hb.mono HBW.out.size)); clear hb)
            | (go_at_call 15; refine (k4.out _ HBW.out).mono ?_; rintro e w7 ⟨rfl, hb⟩; have HBW := Lib.hid (HBW.out.trans (hb.mono HBW.out.size)); clear hb))
          go_roundw
          case rel =>
            repeat apply Exists.intro
            exact ⟨⟨j + 1, by omega, by go_num, HBJ.out.trans (HBW.out.mono HBJ.out.size)⟩, rfl⟩
          case measure => simp [intOf]; omega
        · obtain rfl : j = 2 := by omega
          go_wp2_with fail
          go_ret
          exact ⟨rfl, HBA.out.trans (HBJ.out.mono HBA.out.size)⟩
end Go.Proofs.YtndbhmipehpebaaDoor
