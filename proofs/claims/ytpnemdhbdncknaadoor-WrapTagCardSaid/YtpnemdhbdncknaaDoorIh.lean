/-
  Package wrap: the sender, the ends of calls.
-/
import Derived.Test.YtpnemdhbdncknaaDoorIg
namespace Go.Proofs.YtpnemdhbdncknaaDoor
open Go.RowKit
set_option linter.unusedVariables false
set_option linter.unusedSimpArgs false

set_option maxRecDepth 100000 in
set_option maxHeartbeats 800000 in
theorem sender_any (p : Int) (K : List UInt8) (hK : K.length = 32) (w : World) (hT : Tab w) :
    Calls Tryd.prog 26 #[.int .i64 p, .agg (bvA K)] w fun e w' => e = .returned (.agg #[.int .i64 p, .int .i64 (wR K : Nat), .int .i64 (wUn K : Nat)]) ∧ Below w.heap.size w w' := by
  have HT := Lib.hid hT
  have HK := Lib.hid hK
  have KD := Lib.hid (fun W h => DScalar_any K hK (ByteArray.mk #[119, 114, 97, 112]) W h (by decide))
  have KE := Lib.hid (fun W => wBase K W)
  obtain ⟨r, hr⟩ : ∃ r, wR K = r := ⟨_, rfl⟩
  rw [show scS K (ByteArray.mk #[119, 114, 97, 112]) = r from hr] at KD
  rw [hr] at KE ⊢
  obtain ⟨u, hu⟩ : ∃ u, wUn K = u := ⟨_, rfl⟩
  rw [hu] at KE ⊢
  clear hr hu hT hK
  obtain ⟨w1, hw1⟩ : ∃ w1, w1 = (w.alloc (.cells (bvA K) 23)).alloc (.cells #[.int .i64 0, .int .i64 0, .int .i64 0] 57) := ⟨_, rfl⟩
  have HB1 : Hid (Below w.heap.size w w1) := Lib.hid (hw1 ▸ ((Below.refl _ _).alloc (Nat.le_refl _) _).alloc (by simp) _)
  have HS1 : Hid (BB w1 w.heap.size 23 K) := Lib.hid (hw1 ▸ (BB.new w _ _).alloc _)
  have HD1 : Hid (CB w1 (w.heap.size + 1) 57 #[.int .i64 0, .int .i64 0, .int .i64 0]) := Lib.hid (hw1 ▸ (by have h := CB.new (w.alloc (.cells (bvA K) 23)) 57 #[.int .i64 0, .int .i64 0, .int .i64 0]; rw [alloc_size] at h; exact h))
  go_enter Tryd.func26, Tryd.ntmps26
  go_wp2_with (refine wpList_load_row rfl 23 (.tmp 3) rfl w.heap.size rfl _ (bvA K) (0, 0) _ ((BB.new w _ _).alloc _) Tryd.underlying23 rfl (key_sz _ HK.out) ?_)
  rw [← hw1]
  clear hw1
  refine (KD.out _ (HT.out.below HB1.out HT.out.lt)).mono ?_
  rintro e w2 ⟨rfl, hb⟩
  have HB2 := Lib.hid (HB1.out.trans (hb.mono HB1.out.size))
  have HD2 := Lib.hid (HD1.out.call hb)
  clear hb HB1 HD1 KD
  go_wp2_with (go_at_call 16; refine (KE.out _).mono ?_; rintro e w3 ⟨rfl, hb⟩; refine Hid.out ?_)
  refine Lib.hid ?_
  have HB3 := Lib.hid (HB2.out.trans (hb.mono HB2.out.size))
  have HD3 := Lib.hid (HD2.out.call hb)
  clear hb HB2 HD2 KE
  have d0 : w3.cell? ⟨w.heap.size + 1, 0, none⟩ = some (.int .i64 0) := HD3.out.cell 0
  have d1 : w3.cell? ⟨w.heap.size + 1, 1, none⟩ = some (.int .i64 0) := HD3.out.cell 1
  have d2 : w3.cell? ⟨w.heap.size + 1, 2, none⟩ = some (.int .i64 0) := HD3.out.cell 2
  have e0 := HD3.out.frozen 0
  have e1 := HD3.out.frozen 1
  have e2 := HD3.out.frozen 2
  go_wp2_with fail
  have h9 := ((HD3.out.set 0 (.int .i64 p)).set 1 (.int .i64 (r : Nat))).set 2 (.int .i64 (u : Nat))
  have hB9 := ((HB3.out.setCell (p := ⟨w.heap.size + 1, 0, none⟩) (Nat.le_succ _) (.int .i64 p)).setCell (p := ⟨w.heap.size + 1, 1, none⟩) (Nat.le_succ _) (.int .i64 (r : Nat))).setCell (p := ⟨w.heap.size + 1, 2, none⟩) (Nat.le_succ _) (.int .i64 (u : Nat))
  refine bodyPost_ret (v := .agg #[.int .i64 p, .int .i64 (r : Nat), .int .i64 (u : Nat)]) ?_ rfl ⟨rfl, hB9⟩
  exact results_cell_row rfl _ _ (w.heap.size + 1) 57 _ (0, 0) _ rfl h9 Tryd.underlying57 rfl (by kernel_rfl)

/-- The end of a call of Wrap. -/
def wClo (g1 g2 : Nat) : Value := .func (.func 24) #[] #[.pointer (some ⟨g1, 0, none⟩), .pointer (some ⟨g2, 0, none⟩)]
def wEnds (g1 g2 : Nat) (E : Int) (W : World) : World := ((W.setCell ⟨g1, 0, none⟩ (.int .i64 0)).setCell ⟨g1, 1, none⟩ (.slice none 0 0)).setCell ⟨g2, 0, none⟩ (.int .i64 E)
set_option maxRecDepth 100000 in
theorem wEnd_any (E : Int) (g1 g2 : Nat) (hne : g1 ≠ g2) (x y z : Value) (W : World) (h1 : CB W g1 32 #[x, y]) (h2 : CB W g2 28 #[z]) :
    Calls Tryd.prog 24 #[.int .i64 E, .pointer (some ⟨g1, 0, none⟩), .pointer (some ⟨g2, 0, none⟩)] W fun e W' => e = .returned (.tuple #[]) ∧ W' = wEnds g1 g2 E W := by
  have c0 : W.cell? ⟨g1, 0, none⟩ = some x := h1.cell 0
  have c1 : W.cell? ⟨g1, 1, none⟩ = some y := h1.cell 1
  have c2 : W.cell? ⟨g2, 0, none⟩ = some z := h2.cell 0
  have f0 := h1.frozen 0
  have f1 := h1.frozen 1
  have f2 := h2.frozen 0
  go_enter Tryd.func24, Tryd.ntmps24
  go_wp2_with fail
  go_end0
  exact ⟨rfl, rfl⟩

theorem CB.setO {w : World} {g g' : Nat} {T : TypeId} {cs : Array Value} (h : CB w g T cs) (hne : g ≠ g') (i : Nat) (v : Value) : CB (w.setCell ⟨g', i, none⟩ v) g T cs := (heap_setCell_other w ⟨g', i, none⟩ g v hne).trans h
theorem wEnds_one {g1 g2 : Nat} (hne : g1 ≠ g2) {E : Int} {W : World} {x y : Value} (h : CB W g1 32 #[x, y]) : CB (wEnds g1 g2 E W) g1 32 #[.int .i64 0, .slice none 0 0] :=
  ((h.set 0 (.int .i64 0)).set 1 (.slice none 0 0)).setO hne 0 _
theorem wEnds_two {g1 g2 : Nat} (hne : g1 ≠ g2) {E : Int} {W : World} {z : Value} (h : CB W g2 28 #[z]) : CB (wEnds g1 g2 E W) g2 28 #[.int .i64 E] :=
  ((h.setO (Ne.symm hne) 0 _).setO (Ne.symm hne) 1 _).set 0 (.int .i64 E)
theorem wEnds_below {g1 g2 B : Nat} {E : Int} {w W : World} (h : Below B w W) (h1 : B ≤ g1) (h2 : B ≤ g2) : Below B w (wEnds g1 g2 E W) :=
  ((h.setCell (p := ⟨g1, 0, none⟩) h1 _).setCell (p := ⟨g1, 1, none⟩) h1 _).setCell (p := ⟨g2, 0, none⟩) h2 _

set_option maxRecDepth 100000 in
theorem fails_ok (c : FuncId) (p q : Value) (w : World) :
    Calls Tryd.prog 28 #[.agg #[.func (.func c) #[] #[p, q]], .int .i64 0] w fun e w' => e = .returned (.bool false) ∧ w' = w.alloc (.cells #[.func (.func c) #[] #[p, q]] 55) := by
  go_enter Tryd.func28, Tryd.ntmps28
  go_wp2_with fail
  go_ret
  exact ⟨rfl, rfl⟩
set_option maxRecDepth 100000 in
theorem fails_w (E : Int) (hE : E ≠ 0) (g1 g2 : Nat) (hne : g1 ≠ g2) (x y z : Value) (w : World) (h1 : CB w g1 32 #[x, y]) (h2 : CB w g2 28 #[z]) :
    Calls Tryd.prog 28 #[.agg #[wClo g1 g2], .int .i64 E] w fun e w' => e = .returned (.bool true) ∧ w' = wEnds g1 g2 E (w.alloc (.cells #[wClo g1 g2] 55)) := by
  have K := Lib.hid (wEnd_any E g1 g2 hne x y z (w.alloc (.cells #[wClo g1 g2] 55)) (h1.alloc _) (h2.alloc _))
  have f1 : (E == 0) = false := beq_eq_false_iff_ne.2 hE
  unfold wClo at *
  clear h1 h2
  go_enter Tryd.func28, Tryd.ntmps28
  go_wp2_with (go_at_call 24; refine K.out.mono ?_; rintro e w1 ⟨rfl, rfl⟩)
  go_ret
  exact ⟨rfl, rfl⟩
theorem results_row_cell {P : Program} {fn : Func} {p q : Tmp} {ty tq : TypeId} (h : fn.results = #[.cell p ty, .cell q tq]) (tmps : Array Value) (w : World) (g g2 : Nat) (t : TypeId) (cs : Array Value) (fr : Nat × Nat) (d : TypeDesc)
    (hp : tmps.getD p undef = .pointer (some ⟨g, 0, none⟩)) (hg : w.heap[g]? = some (.cells cs t fr))
    (hu : P.underlying ty = some d) (hd : (match d with | .struct _ | .array _ _ => true | _ => false) = true) (hi : (P.info? ty).map (·.size) = some cs.size)
    (hq : tmps.getD q undef = .pointer (some ⟨g2, 0, none⟩)) (v : Value) (hv : (loadVar tq ⟨g2, 0, none⟩).run P w = .ok v w) :
    (results fn tmps).run P w = .ok (.tuple #[.agg cs, v]) w := by
  have hp' : tmps[p]?.getD undef = .pointer (some ⟨g, 0, none⟩) := by simpa using hp
  have hq' : tmps[q]?.getD undef = .pointer (some ⟨g2, 0, none⟩) := by simpa using hq
  simp [results, h, hp', hq', asAddr, run_loadVar_row w g t ty cs fr d hg hu hd hi, hv]
theorem load_errno (w : World) (g : Nat) (v : Value) (h : w.cell? ⟨g, 0, none⟩ = some v) : (loadVar 28 ⟨g, 0, none⟩).run Tryd.prog w = .ok v w := by
  go_simp
end Go.Proofs.YtpnemdhbdncknaaDoor
