/-
  Package proxy: attempt.
-/
import Derived.Test.YteigldfdaciopaaGreatDoorLi
import Derived.Defers
import Derived.Recover
namespace Go.Proofs.YteigldfdaciopaaGreatDoor
open Go.RowKit
set_option linter.unusedVariables false
set_option linter.unusedSimpArgs false

theorem iface_assert (n : Int) (w : World) : (Instr.typeAssert (.iface 27 (.int .i64 n)) 20 27 true).run Tryz.prog w = .ok (.tuple #[.int .i64 n, .bool true]) w := by kernel_rfl
theorem nil_assert (w : World) : (Instr.typeAssert .nilIface 20 27 true).run Tryz.prog w = .ok (.tuple #[.int .i64 0, .bool false]) w := by kernel_rfl

theorem catchC_panicking (q : Nat) (y : Value) (n : Int) (older : List PanicEntry) (w : World) (h4 : w.cell? ⟨q, 0, none⟩ = some y) (hg : w.frozen? ⟨q, 0, none⟩ = false) :
    CallsD Tryz.prog 51 #[.pointer (some ⟨q, 0, none⟩)] (.panicking ({ v := .iface 27 (.int .i64 n), recovered := false } :: older)) w fun e u' w' =>
      e = .returned (.tuple #[]) ∧ u' = .panicking ({ v := .iface 27 (.int .i64 n), recovered := true } :: older) ∧ w' = w.setCell ⟨q, 0, none⟩ (.int .i64 n) := by
  have ha := fun w => iface_assert n w
  refine callsD_of_wpS Tryz.func51 rfl fun c₀ cs hu => ?_
  apply wpS_seq
  apply wpS_region
  simp [wpOpsS, go_sem, recoverD, hu, Tryz.ntmps51, Exit.thenS, ha]
  apply wpS_seq
  apply wpS_region
  simp [wpOpsS, go_sem, Exit.thenS]
  refine wpS_cond (t := true) (by simp [Act.eval, Array.replicate]) ?_
  simp only [if_true]
  apply wpS_region
  simp [wpOpsS, go_sem, h4, hg, bodyPostS, results, Tryz.results51]
theorem catchC_idle (p : Addr) (w : World) :
    CallsD Tryz.prog 51 #[.pointer (some p)] .returning w fun e u' w' => e = .returned (.tuple #[]) ∧ u' = .returning ∧ w' = w := by
  have ha := fun w => nil_assert w
  refine callsD_of_wpS Tryz.func51 rfl fun c₀ cs hu => ?_
  apply wpS_seq
  apply wpS_region
  simp [wpOpsS, go_sem, recoverD, hu, Tryz.ntmps51, Exit.thenS, ha]
  apply wpS_seq
  apply wpS_region
  simp [wpOpsS, go_sem, Exit.thenS]
  refine wpS_cond (t := false) (by simp [Act.eval, Array.replicate]) ?_
  simp only [Bool.false_eq_true, if_false]
  refine wpS_of_wp (wp_skip ?_)
  cases c₀
  simp_all [bodyPostS, results, Tryz.results51]

theorem catchK_panicking (q : Nat) (y : Value) (n : Int) (older : List PanicEntry) (w : World) (h4 : w.cell? ⟨q, 0, none⟩ = some y) (hg : w.frozen? ⟨q, 0, none⟩ = false) :
    CallsD Tryz.prog 67 #[.pointer (some ⟨q, 0, none⟩)] (.panicking ({ v := .iface 27 (.int .i64 n), recovered := false } :: older)) w fun e u' w' =>
      e = .returned (.tuple #[]) ∧ u' = .panicking ({ v := .iface 27 (.int .i64 n), recovered := true } :: older) ∧ w' = w.setCell ⟨q, 0, none⟩ (.int .i64 n) := by
  have ha := fun w => iface_assert n w
  refine callsD_of_wpS Tryz.func67 rfl fun c₀ cs hu => ?_
  apply wpS_seq
  apply wpS_region
  simp [wpOpsS, go_sem, recoverD, hu, Tryz.ntmps67, Exit.thenS, ha]
  apply wpS_seq
  apply wpS_region
  simp [wpOpsS, go_sem, Exit.thenS]
  refine wpS_cond (t := true) (by simp [Act.eval, Array.replicate]) ?_
  simp only [if_true]
  apply wpS_region
  simp [wpOpsS, go_sem, h4, hg, bodyPostS, results, Tryz.results67]
theorem catchK_idle (p : Addr) (w : World) :
    CallsD Tryz.prog 67 #[.pointer (some p)] .returning w fun e u' w' => e = .returned (.tuple #[]) ∧ u' = .returning ∧ w' = w := by
  have ha := fun w => nil_assert w
  refine callsD_of_wpS Tryz.func67 rfl fun c₀ cs hu => ?_
  apply wpS_seq
  apply wpS_region
  simp [wpOpsS, go_sem, recoverD, hu, Tryz.ntmps67, Exit.thenS, ha]
  apply wpS_seq
  apply wpS_region
  simp [wpOpsS, go_sem, Exit.thenS]
  refine wpS_cond (t := false) (by simp [Act.eval, Array.replicate]) ?_
  simp only [Bool.false_eq_true, if_false]
  refine wpS_of_wp (wp_skip ?_)
  cases c₀
  simp_all [bodyPostS, results, Tryz.results67]

theorem catchI_panicking (q : Nat) (y : Value) (n : Int) (older : List PanicEntry) (w : World) (h4 : w.cell? ⟨q, 0, none⟩ = some y) (hg : w.frozen? ⟨q, 0, none⟩ = false) :
    CallsD Tryz.prog 72 #[.pointer (some ⟨q, 0, none⟩)] (.panicking ({ v := .iface 27 (.int .i64 n), recovered := false } :: older)) w fun e u' w' =>
      e = .returned (.tuple #[]) ∧ u' = .panicking ({ v := .iface 27 (.int .i64 n), recovered := true } :: older) ∧ w' = w.setCell ⟨q, 0, none⟩ (.int .i64 n) := by
  have ha := fun w => iface_assert n w
  refine callsD_of_wpS Tryz.func72 rfl fun c₀ cs hu => ?_
  apply wpS_seq
  apply wpS_region
  simp [wpOpsS, go_sem, recoverD, hu, Tryz.ntmps72, Exit.thenS, ha]
  apply wpS_seq
  apply wpS_region
  simp [wpOpsS, go_sem, Exit.thenS]
  refine wpS_cond (t := true) (by simp [Act.eval, Array.replicate]) ?_
  simp only [if_true]
  apply wpS_region
  simp [wpOpsS, go_sem, h4, hg, bodyPostS, results, Tryz.results72]
theorem catchI_idle (p : Addr) (w : World) :
    CallsD Tryz.prog 72 #[.pointer (some p)] .returning w fun e u' w' => e = .returned (.tuple #[]) ∧ u' = .returning ∧ w' = w := by
  have ha := fun w => nil_assert w
  refine callsD_of_wpS Tryz.func72 rfl fun c₀ cs hu => ?_
  apply wpS_seq
  apply wpS_region
  simp [wpOpsS, go_sem, recoverD, hu, Tryz.ntmps72, Exit.thenS, ha]
  apply wpS_seq
  apply wpS_region
  simp [wpOpsS, go_sem, Exit.thenS]
  refine wpS_cond (t := false) (by simp [Act.eval, Array.replicate]) ?_
  simp only [Bool.false_eq_true, if_false]
  refine wpS_of_wp (wp_skip ?_)
  cases c₀
  simp_all [bodyPostS, results, Tryz.results72]

theorem results_tmp_cell {P : Program} {fn : Func} {u q : Tmp} {tq : TypeId} (h : fn.results = #[.tmp u, .cell q tq]) (tmps : Array Value) (w : World) (g2 : Nat)
    (hq : tmps.getD q undef = .pointer (some ⟨g2, 0, none⟩)) (x : Value) (hx : tmps.getD u undef = x) (v : Value) (hv : (loadVar tq ⟨g2, 0, none⟩).run P w = .ok v w) :
    (results fn tmps).run P w = .ok (.tuple #[x, v]) w := by
  have hq' : tmps[q]?.getD undef = .pointer (some ⟨g2, 0, none⟩) := by simpa using hq
  have hx' : tmps[u]?.getD undef = x := by simpa using hx
  simp [results, h, hq', hx', asAddr, hv]

set_option maxRecDepth 100000 in
set_option maxHeartbeats 800000 in
theorem attL_ok (gp gs gk : Nat) (a b : Int) (l : List UInt8) (hl : l.length = 32) (w : World) (h : ∀ W, Below w.heap.size w W → Calls Tryz.prog 22 #[.pointer (some ⟨gp, 0, none⟩), .pointer (some ⟨gs, 0, none⟩), .pointer (some ⟨gk, 0, none⟩)] W fun e w' => e = .returned (.agg (capA a b l)) ∧ Below W.heap.size W w') :
    Calls Tryz.prog 21 #[.func (.func 22) #[] #[.pointer (some ⟨gp, 0, none⟩), .pointer (some ⟨gs, 0, none⟩), .pointer (some ⟨gk, 0, none⟩)]] w fun e w' => e = .returned (.tuple #[.agg (capA a b l), .int .i64 0]) ∧ Below w.heap.size w w' := by
  have hmf : ∀ (fn : Fn) (first cap : Array Value) (w : World), (Instr.makeFunc fn first cap).run Tryz.prog w = .ok (.func fn first cap) w := fun _ _ _ _ => rfl
  have H := Lib.hid h
  have HL := Lib.hid hl
  obtain ⟨wb, hwb⟩ : ∃ wb, wb = (w.alloc (.cells (capA 0 0 kZ) 25)).alloc (.cells #[.int .i64 0] 27) := ⟨_, rfl⟩
  have HB : Hid (Below w.heap.size w wb) := Lib.hid (by rw [hwb]; exact ((Below.refl _ _).alloc (Nat.le_refl _) _).alloc (by simp) _)
  have HC : Hid (CB wb w.heap.size 25 (capA 0 0 kZ)) := Lib.hid (by rw [hwb]; exact (CB.new w _ _).alloc _)
  have HE : Hid (CB wb (w.heap.size + 1) 27 #[.int .i64 0]) := Lib.hid (by
    have h := CB.new (w.alloc (.cells (capA 0 0 kZ) 25)) 27 #[.int .i64 0]
    rw [hwb]
    simpa using h)
  have hzz := fun W => zero_cap W
  clear h hl
  go_enter_defers Tryz.func21, Tryz.ntmps21
  go_wp2_with fail
  rw [← hwb]
  clear hwb hmf hzz
  with_reducible refine (H.out _ HB.out).mono ?_
  rintro e w1 ⟨rfl, hb⟩
  have HB1 := Lib.hid (HB.out.trans (hb.mono HB.out.size))
  have HE1 := Lib.hid (HE.out.call hb)
  have HC1 := Lib.hid (HC.out.call hb)
  clear hb HB HE HC H
  go_wp2_with (refine wpList_storeA rfl 25 (.tmp 2) (.tmp 6) rfl w.heap.size (capA a b l) rfl rfl 25 _ HC1.out (cap_sz _ _ _ HL.out) (cap_old _ _ _ _ _ _ kZ_len HL.out) (capA_one _ _ _) ?_)
  intro w2 hn hg
  have HB2 := Lib.hid (grown_below HB1.out hg (Nat.le_refl _) HB1.out.size)
  have HE2 := Lib.hid (HE1.out.grown hg (by omega))
  have HC2 := Lib.hid (show CB w2 w.heap.size 25 (capA a b l) from hn)
  clear hn hg HB1 HE1 HC1
  have c0 := KB1 HE2.out
  have f0 := HE2.out.frozen 0
  have HB3 : Hid (Below w.heap.size w (w2.setCell ⟨w.heap.size + 1, 0, none⟩ (.int .i64 0))) := Lib.hid (HB2.out.setCell (by show w.heap.size ≤ w.heap.size + 1; omega) _)
  have HC3 := Lib.hid (HC2.out.setO (show w.heap.size ≠ w.heap.size + 1 by omega) 0 (.int .i64 0))
  have HE3 := Lib.hid (HE2.out.set 0 (.int .i64 0))
  go_wp2_with fail
  refine leaves_cons (f := 51) (args := #[.pointer (some ⟨w.heap.size + 1, 0, none⟩)]) (by simp) (by simp [go_sem]) ?_
  refine (catchC_idle ⟨w.heap.size + 1, 0, none⟩ _).mono ?_
  rintro e u' w'' ⟨rfl, rfl, rfl⟩
  exact ⟨_, results_row_cell rfl _ _ w.heap.size (w.heap.size + 1) 25 _ (0, 0) _ rfl HC3.out cap_und rfl (cap_sz _ _ _ HL.out) rfl _ (load_errno _ _ _ (KB1 HE3.out)), rfl, HB3.out⟩

set_option maxRecDepth 100000 in
set_option maxHeartbeats 800000 in
theorem attL_bad (gp gs gk : Nat) (n : Int) (w : World) (h : ∀ W, Below w.heap.size w W → Calls Tryz.prog 22 #[.pointer (some ⟨gp, 0, none⟩), .pointer (some ⟨gs, 0, none⟩), .pointer (some ⟨gk, 0, none⟩)] W fun e w' => e = .panicked (errP n) ∧ Below W.heap.size W w') :
    Calls Tryz.prog 21 #[.func (.func 22) #[] #[.pointer (some ⟨gp, 0, none⟩), .pointer (some ⟨gs, 0, none⟩), .pointer (some ⟨gk, 0, none⟩)]] w fun e w' => e = .returned (.tuple #[.agg (capA 0 0 kZ), .int .i64 n]) ∧ Below w.heap.size w w' := by
  have hmf : ∀ (fn : Fn) (first cap : Array Value) (w : World), (Instr.makeFunc fn first cap).run Tryz.prog w = .ok (.func fn first cap) w := fun _ _ _ _ => rfl
  have H := Lib.hid h
  obtain ⟨wb, hwb⟩ : ∃ wb, wb = (w.alloc (.cells (capA 0 0 kZ) 25)).alloc (.cells #[.int .i64 0] 27) := ⟨_, rfl⟩
  have HB : Hid (Below w.heap.size w wb) := Lib.hid (by rw [hwb]; exact ((Below.refl _ _).alloc (Nat.le_refl _) _).alloc (by simp) _)
  have HC : Hid (CB wb w.heap.size 25 (capA 0 0 kZ)) := Lib.hid (by rw [hwb]; exact (CB.new w _ _).alloc _)
  have HE : Hid (CB wb (w.heap.size + 1) 27 #[.int .i64 0]) := Lib.hid (by
    have h := CB.new (w.alloc (.cells (capA 0 0 kZ) 25)) 27 #[.int .i64 0]
    rw [hwb]
    simpa using h)
  have hzz := fun W => zero_cap W
  clear h
  go_enter_defers Tryz.func21, Tryz.ntmps21
  go_wp2_with fail
  rw [← hwb]
  clear hwb hmf hzz
  with_reducible refine (H.out _ HB.out).mono ?_
  rintro e w1 ⟨rfl, hb⟩
  have HB1 := Lib.hid (HB.out.trans (hb.mono HB.out.size))
  have HE1 := Lib.hid (HE.out.call hb)
  have HC1 := Lib.hid (HC.out.call hb)
  clear hb HB HE HC H
  have HB3 : Hid (Below w.heap.size w (w1.setCell ⟨w.heap.size + 1, 0, none⟩ (.int .i64 n))) := Lib.hid (HB1.out.setCell (by show w.heap.size ≤ w.heap.size + 1; omega) _)
  have HE3 := Lib.hid (HE1.out.set 0 (.int .i64 n))
  have HC3 := Lib.hid (HC1.out.setO (show w.heap.size ≠ w.heap.size + 1 by omega) 0 (.int .i64 n))
  refine leaves_cons (f := 51) (args := #[.pointer (some ⟨w.heap.size + 1, 0, none⟩)]) (by simp) (by simp [go_sem]) ?_
  refine (catchC_panicking (w.heap.size + 1) _ n [] _ (KB1 HE1.out) (HE1.out.frozen 0)).mono ?_
  rintro e u' w'' ⟨rfl, rfl, rfl⟩
  exact ⟨_, results_row_cell rfl _ _ w.heap.size (w.heap.size + 1) 25 _ (0, 0) _ rfl HC3.out cap_und rfl (cap_sz _ _ _ kZ_len) rfl _ (load_errno _ _ _ (KB1 HE3.out)), rfl, HB3.out⟩

set_option maxRecDepth 100000 in
set_option maxHeartbeats 800000 in
theorem attT_ok (gx gc : Nat) (a b : Int) (l : List UInt8) (hl : l.length = 32) (w : World) (h : ∀ W, Below w.heap.size w W → Calls Tryz.prog 48 #[.pointer (some ⟨gx, 0, none⟩), .pointer (some ⟨gc, 0, none⟩)] W fun e w' => e = .returned (.agg (capA a b l)) ∧ Below W.heap.size W w') :
    Calls Tryz.prog 21 #[.func (.func 48) #[] #[.pointer (some ⟨gx, 0, none⟩), .pointer (some ⟨gc, 0, none⟩)]] w fun e w' => e = .returned (.tuple #[.agg (capA a b l), .int .i64 0]) ∧ Below w.heap.size w w' := by
  have hmf : ∀ (fn : Fn) (first cap : Array Value) (w : World), (Instr.makeFunc fn first cap).run Tryz.prog w = .ok (.func fn first cap) w := fun _ _ _ _ => rfl
  have H := Lib.hid h
  have HL := Lib.hid hl
  obtain ⟨wb, hwb⟩ : ∃ wb, wb = (w.alloc (.cells (capA 0 0 kZ) 25)).alloc (.cells #[.int .i64 0] 27) := ⟨_, rfl⟩
  have HB : Hid (Below w.heap.size w wb) := Lib.hid (by rw [hwb]; exact ((Below.refl _ _).alloc (Nat.le_refl _) _).alloc (by simp) _)
  have HC : Hid (CB wb w.heap.size 25 (capA 0 0 kZ)) := Lib.hid (by rw [hwb]; exact (CB.new w _ _).alloc _)
  have HE : Hid (CB wb (w.heap.size + 1) 27 #[.int .i64 0]) := Lib.hid (by
    have h := CB.new (w.alloc (.cells (capA 0 0 kZ) 25)) 27 #[.int .i64 0]
    rw [hwb]
    simpa using h)
  have hzz := fun W => zero_cap W
  clear h hl
  go_enter_defers Tryz.func21, Tryz.ntmps21
  go_wp2_with fail
  rw [← hwb]
  clear hwb hmf hzz
  with_reducible refine (H.out _ HB.out).mono ?_
  rintro e w1 ⟨rfl, hb⟩
  have HB1 := Lib.hid (HB.out.trans (hb.mono HB.out.size))
  have HE1 := Lib.hid (HE.out.call hb)
  have HC1 := Lib.hid (HC.out.call hb)
  clear hb HB HE HC H
  go_wp2_with (refine wpList_storeA rfl 25 (.tmp 2) (.tmp 6) rfl w.heap.size (capA a b l) rfl rfl 25 _ HC1.out (cap_sz _ _ _ HL.out) (cap_old _ _ _ _ _ _ kZ_len HL.out) (capA_one _ _ _) ?_)
  intro w2 hn hg
  have HB2 := Lib.hid (grown_below HB1.out hg (Nat.le_refl _) HB1.out.size)
  have HE2 := Lib.hid (HE1.out.grown hg (by omega))
  have HC2 := Lib.hid (show CB w2 w.heap.size 25 (capA a b l) from hn)
  clear hn hg HB1 HE1 HC1
  have c0 := KB1 HE2.out
  have f0 := HE2.out.frozen 0
  have HB3 : Hid (Below w.heap.size w (w2.setCell ⟨w.heap.size + 1, 0, none⟩ (.int .i64 0))) := Lib.hid (HB2.out.setCell (by show w.heap.size ≤ w.heap.size + 1; omega) _)
  have HC3 := Lib.hid (HC2.out.setO (show w.heap.size ≠ w.heap.size + 1 by omega) 0 (.int .i64 0))
  have HE3 := Lib.hid (HE2.out.set 0 (.int .i64 0))
  go_wp2_with fail
  refine leaves_cons (f := 51) (args := #[.pointer (some ⟨w.heap.size + 1, 0, none⟩)]) (by simp) (by simp [go_sem]) ?_
  refine (catchC_idle ⟨w.heap.size + 1, 0, none⟩ _).mono ?_
  rintro e u' w'' ⟨rfl, rfl, rfl⟩
  exact ⟨_, results_row_cell rfl _ _ w.heap.size (w.heap.size + 1) 25 _ (0, 0) _ rfl HC3.out cap_und rfl (cap_sz _ _ _ HL.out) rfl _ (load_errno _ _ _ (KB1 HE3.out)), rfl, HB3.out⟩

set_option maxRecDepth 100000 in
set_option maxHeartbeats 800000 in
theorem attT_bad (gx gc : Nat) (n : Int) (w : World) (h : ∀ W, Below w.heap.size w W → Calls Tryz.prog 48 #[.pointer (some ⟨gx, 0, none⟩), .pointer (some ⟨gc, 0, none⟩)] W fun e w' => e = .panicked (errP n) ∧ Below W.heap.size W w') :
    Calls Tryz.prog 21 #[.func (.func 48) #[] #[.pointer (some ⟨gx, 0, none⟩), .pointer (some ⟨gc, 0, none⟩)]] w fun e w' => e = .returned (.tuple #[.agg (capA 0 0 kZ), .int .i64 n]) ∧ Below w.heap.size w w' := by
  have hmf : ∀ (fn : Fn) (first cap : Array Value) (w : World), (Instr.makeFunc fn first cap).run Tryz.prog w = .ok (.func fn first cap) w := fun _ _ _ _ => rfl
  have H := Lib.hid h
  obtain ⟨wb, hwb⟩ : ∃ wb, wb = (w.alloc (.cells (capA 0 0 kZ) 25)).alloc (.cells #[.int .i64 0] 27) := ⟨_, rfl⟩
  have HB : Hid (Below w.heap.size w wb) := Lib.hid (by rw [hwb]; exact ((Below.refl _ _).alloc (Nat.le_refl _) _).alloc (by simp) _)
  have HC : Hid (CB wb w.heap.size 25 (capA 0 0 kZ)) := Lib.hid (by rw [hwb]; exact (CB.new w _ _).alloc _)
  have HE : Hid (CB wb (w.heap.size + 1) 27 #[.int .i64 0]) := Lib.hid (by
    have h := CB.new (w.alloc (.cells (capA 0 0 kZ) 25)) 27 #[.int .i64 0]
    rw [hwb]
    simpa using h)
  have hzz := fun W => zero_cap W
  clear h
  go_enter_defers Tryz.func21, Tryz.ntmps21
  go_wp2_with fail
  rw [← hwb]
  clear hwb hmf hzz
  with_reducible refine (H.out _ HB.out).mono ?_
  rintro e w1 ⟨rfl, hb⟩
  have HB1 := Lib.hid (HB.out.trans (hb.mono HB.out.size))
  have HE1 := Lib.hid (HE.out.call hb)
  have HC1 := Lib.hid (HC.out.call hb)
  clear hb HB HE HC H
  have HB3 : Hid (Below w.heap.size w (w1.setCell ⟨w.heap.size + 1, 0, none⟩ (.int .i64 n))) := Lib.hid (HB1.out.setCell (by show w.heap.size ≤ w.heap.size + 1; omega) _)
  have HE3 := Lib.hid (HE1.out.set 0 (.int .i64 n))
  have HC3 := Lib.hid (HC1.out.setO (show w.heap.size ≠ w.heap.size + 1 by omega) 0 (.int .i64 n))
  refine leaves_cons (f := 51) (args := #[.pointer (some ⟨w.heap.size + 1, 0, none⟩)]) (by simp) (by simp [go_sem]) ?_
  refine (catchC_panicking (w.heap.size + 1) _ n [] _ (KB1 HE1.out) (HE1.out.frozen 0)).mono ?_
  rintro e u' w'' ⟨rfl, rfl, rfl⟩
  exact ⟨_, results_row_cell rfl _ _ w.heap.size (w.heap.size + 1) 25 _ (0, 0) _ rfl HC3.out cap_und rfl (cap_sz _ _ _ kZ_len) rfl _ (load_errno _ _ _ (KB1 HE3.out)), rfl, HB3.out⟩

set_option maxRecDepth 100000 in
set_option maxHeartbeats 800000 in
theorem attO_ok (gx gc : Nat) (l : List UInt8) (hl : l.length = 32) (w : World) (h : ∀ W, Below w.heap.size w W → Calls Tryz.prog 37 #[.pointer (some ⟨gx, 0, none⟩), .pointer (some ⟨gc, 0, none⟩)] W fun e w' => e = .returned (.agg (bvA l)) ∧ Below W.heap.size W w') :
    Calls Tryz.prog 36 #[.func (.func 37) #[] #[.pointer (some ⟨gx, 0, none⟩), .pointer (some ⟨gc, 0, none⟩)]] w fun e w' => e = .returned (.tuple #[.agg (bvA l), .int .i64 0]) ∧ Below w.heap.size w w' := by
  have hmf : ∀ (fn : Fn) (first cap : Array Value) (w : World), (Instr.makeFunc fn first cap).run Tryz.prog w = .ok (.func fn first cap) w := fun _ _ _ _ => rfl
  have H := Lib.hid h
  have HL := Lib.hid hl
  obtain ⟨wb, hwb⟩ : ∃ wb, wb = (w.alloc (.cells (bvA kZ) 23)).alloc (.cells #[.int .i64 0] 27) := ⟨_, rfl⟩
  have HB : Hid (Below w.heap.size w wb) := Lib.hid (by rw [hwb]; exact ((Below.refl _ _).alloc (Nat.le_refl _) _).alloc (by simp) _)
  have HC : Hid (CB wb w.heap.size 23 (bvA kZ)) := Lib.hid (by rw [hwb]; exact (CB.new w _ _).alloc _)
  have HE : Hid (CB wb (w.heap.size + 1) 27 #[.int .i64 0]) := Lib.hid (by
    have h := CB.new (w.alloc (.cells (bvA kZ) 23)) 27 #[.int .i64 0]
    rw [hwb]
    simpa using h)
  have hzz := fun W => zero_ky W
  clear h hl
  go_enter_defers Tryz.func36, Tryz.ntmps36
  go_wp2_with fail
  rw [← hwb]
  clear hwb hmf hzz
  with_reducible refine (H.out _ HB.out).mono ?_
  rintro e w1 ⟨rfl, hb⟩
  have HB1 := Lib.hid (HB.out.trans (hb.mono HB.out.size))
  have HE1 := Lib.hid (HE.out.call hb)
  have HC1 := Lib.hid (HC.out.call hb)
  clear hb HB HE HC H
  go_wp2_with (refine wpList_storeA rfl 23 (.tmp 2) (.tmp 6) rfl w.heap.size (bvA l) rfl rfl 23 _ HC1.out (key_sz _ HL.out) (key_old _ HL.out) (bvA_one _) ?_)
  intro w2 hn hg
  have HB2 := Lib.hid (grown_below HB1.out hg (Nat.le_refl _) HB1.out.size)
  have HE2 := Lib.hid (HE1.out.grown hg (by omega))
  have HC2 := Lib.hid (show CB w2 w.heap.size 23 (bvA l) from hn)
  clear hn hg HB1 HE1 HC1
  have c0 := KB1 HE2.out
  have f0 := HE2.out.frozen 0
  have HB3 : Hid (Below w.heap.size w (w2.setCell ⟨w.heap.size + 1, 0, none⟩ (.int .i64 0))) := Lib.hid (HB2.out.setCell (by show w.heap.size ≤ w.heap.size + 1; omega) _)
  have HC3 := Lib.hid (HC2.out.setO (show w.heap.size ≠ w.heap.size + 1 by omega) 0 (.int .i64 0))
  have HE3 := Lib.hid (HE2.out.set 0 (.int .i64 0))
  go_wp2_with fail
  refine leaves_cons (f := 67) (args := #[.pointer (some ⟨w.heap.size + 1, 0, none⟩)]) (by simp) (by simp [go_sem]) ?_
  refine (catchK_idle ⟨w.heap.size + 1, 0, none⟩ _).mono ?_
  rintro e u' w'' ⟨rfl, rfl, rfl⟩
  exact ⟨_, results_row_cell rfl _ _ w.heap.size (w.heap.size + 1) 23 _ (0, 0) _ rfl HC3.out key_und rfl (key_sz _ HL.out) rfl _ (load_errno _ _ _ (KB1 HE3.out)), rfl, HB3.out⟩

set_option maxRecDepth 100000 in
set_option maxHeartbeats 800000 in
theorem attO_bad (gx gc : Nat) (n : Int) (w : World) (h : ∀ W, Below w.heap.size w W → Calls Tryz.prog 37 #[.pointer (some ⟨gx, 0, none⟩), .pointer (some ⟨gc, 0, none⟩)] W fun e w' => e = .panicked (errP n) ∧ Below W.heap.size W w') :
    Calls Tryz.prog 36 #[.func (.func 37) #[] #[.pointer (some ⟨gx, 0, none⟩), .pointer (some ⟨gc, 0, none⟩)]] w fun e w' => e = .returned (.tuple #[.agg (bvA kZ), .int .i64 n]) ∧ Below w.heap.size w w' := by
  have hmf : ∀ (fn : Fn) (first cap : Array Value) (w : World), (Instr.makeFunc fn first cap).run Tryz.prog w = .ok (.func fn first cap) w := fun _ _ _ _ => rfl
  have H := Lib.hid h
  obtain ⟨wb, hwb⟩ : ∃ wb, wb = (w.alloc (.cells (bvA kZ) 23)).alloc (.cells #[.int .i64 0] 27) := ⟨_, rfl⟩
  have HB : Hid (Below w.heap.size w wb) := Lib.hid (by rw [hwb]; exact ((Below.refl _ _).alloc (Nat.le_refl _) _).alloc (by simp) _)
  have HC : Hid (CB wb w.heap.size 23 (bvA kZ)) := Lib.hid (by rw [hwb]; exact (CB.new w _ _).alloc _)
  have HE : Hid (CB wb (w.heap.size + 1) 27 #[.int .i64 0]) := Lib.hid (by
    have h := CB.new (w.alloc (.cells (bvA kZ) 23)) 27 #[.int .i64 0]
    rw [hwb]
    simpa using h)
  have hzz := fun W => zero_ky W
  clear h
  go_enter_defers Tryz.func36, Tryz.ntmps36
  go_wp2_with fail
  rw [← hwb]
  clear hwb hmf hzz
  with_reducible refine (H.out _ HB.out).mono ?_
  rintro e w1 ⟨rfl, hb⟩
  have HB1 := Lib.hid (HB.out.trans (hb.mono HB.out.size))
  have HE1 := Lib.hid (HE.out.call hb)
  have HC1 := Lib.hid (HC.out.call hb)
  clear hb HB HE HC H
  have HB3 : Hid (Below w.heap.size w (w1.setCell ⟨w.heap.size + 1, 0, none⟩ (.int .i64 n))) := Lib.hid (HB1.out.setCell (by show w.heap.size ≤ w.heap.size + 1; omega) _)
  have HE3 := Lib.hid (HE1.out.set 0 (.int .i64 n))
  have HC3 := Lib.hid (HC1.out.setO (show w.heap.size ≠ w.heap.size + 1 by omega) 0 (.int .i64 n))
  refine leaves_cons (f := 67) (args := #[.pointer (some ⟨w.heap.size + 1, 0, none⟩)]) (by simp) (by simp [go_sem]) ?_
  refine (catchK_panicking (w.heap.size + 1) _ n [] _ (KB1 HE1.out) (HE1.out.frozen 0)).mono ?_
  rintro e u' w'' ⟨rfl, rfl, rfl⟩
  exact ⟨_, results_row_cell rfl _ _ w.heap.size (w.heap.size + 1) 23 _ (0, 0) _ rfl HC3.out key_und rfl (key_sz _ kZ_len) rfl _ (load_errno _ _ _ (KB1 HE3.out)), rfl, HB3.out⟩

set_option maxRecDepth 100000 in
set_option maxHeartbeats 800000 in
theorem attF_ok (gx gy : Nat) (a : Int) (w : World) (h : ∀ W, Below w.heap.size w W → Calls Tryz.prog 44 #[.pointer (some ⟨gx, 0, none⟩), .pointer (some ⟨gy, 0, none⟩)] W fun e w' => e = .returned (.int .i64 a) ∧ Below W.heap.size W w') :
    Calls Tryz.prog 43 #[.func (.func 44) #[] #[.pointer (some ⟨gx, 0, none⟩), .pointer (some ⟨gy, 0, none⟩)]] w fun e w' => e = .returned (.tuple #[.int .i64 a, .int .i64 0]) ∧ Below w.heap.size w w' := by
  have hmf : ∀ (fn : Fn) (first cap : Array Value) (w : World), (Instr.makeFunc fn first cap).run Tryz.prog w = .ok (.func fn first cap) w := fun _ _ _ _ => rfl
  have H := Lib.hid h
  obtain ⟨wb, hwb⟩ : ∃ wb, wb = w.alloc (.cells #[.int .i64 0] 27) := ⟨_, rfl⟩
  have HB : Hid (Below w.heap.size w wb) := Lib.hid (by rw [hwb]; exact (Below.refl _ _).alloc (Nat.le_refl _) _)
  have HE : Hid (CB wb w.heap.size 27 #[.int .i64 0]) := Lib.hid (by rw [hwb]; exact CB.new w _ _)
  clear h
  go_enter_defers Tryz.func43, Tryz.ntmps43
  go_wp2_with fail
  rw [← hwb]
  clear hwb hmf
  with_reducible refine (H.out _ HB.out).mono ?_
  rintro e w1 ⟨rfl, hb⟩
  have HB1 := Lib.hid (HB.out.trans (hb.mono HB.out.size))
  have HE1 := Lib.hid (HE.out.call hb)
  clear hb HB HE H
  have c0 := KB1 HE1.out
  have f0 := HE1.out.frozen 0
  have HB3 : Hid (Below w.heap.size w (w1.setCell ⟨w.heap.size, 0, none⟩ (.int .i64 0))) := Lib.hid (HB1.out.setCell (Nat.le_refl _) _)
  have HE3 := Lib.hid (HE1.out.set 0 (.int .i64 0))
  go_wp2_with fail
  refine leaves_cons (f := 72) (args := #[.pointer (some ⟨w.heap.size, 0, none⟩)]) (by simp) (by simp [go_sem]) ?_
  refine (catchI_idle ⟨w.heap.size, 0, none⟩ _).mono ?_
  rintro e u' w'' ⟨rfl, rfl, rfl⟩
  exact ⟨_, results_tmp_cell rfl _ _ _ rfl _ rfl _ (load_errno _ _ _ (KB1 HE3.out)), rfl, HB3.out⟩

set_option maxRecDepth 100000 in
set_option maxHeartbeats 800000 in
theorem attF_bad (gx gy : Nat) (n : Int) (w : World) (h : ∀ W, Below w.heap.size w W → Calls Tryz.prog 44 #[.pointer (some ⟨gx, 0, none⟩), .pointer (some ⟨gy, 0, none⟩)] W fun e w' => e = .panicked (errP n) ∧ Below W.heap.size W w') :
    Calls Tryz.prog 43 #[.func (.func 44) #[] #[.pointer (some ⟨gx, 0, none⟩), .pointer (some ⟨gy, 0, none⟩)]] w fun e w' => e = .returned (.tuple #[.int .i64 0, .int .i64 n]) ∧ Below w.heap.size w w' := by
  have hmf : ∀ (fn : Fn) (first cap : Array Value) (w : World), (Instr.makeFunc fn first cap).run Tryz.prog w = .ok (.func fn first cap) w := fun _ _ _ _ => rfl
  have H := Lib.hid h
  obtain ⟨wb, hwb⟩ : ∃ wb, wb = w.alloc (.cells #[.int .i64 0] 27) := ⟨_, rfl⟩
  have HB : Hid (Below w.heap.size w wb) := Lib.hid (by rw [hwb]; exact (Below.refl _ _).alloc (Nat.le_refl _) _)
  have HE : Hid (CB wb w.heap.size 27 #[.int .i64 0]) := Lib.hid (by rw [hwb]; exact CB.new w _ _)
  clear h
  go_enter_defers Tryz.func43, Tryz.ntmps43
  go_wp2_with fail
  rw [← hwb]
  clear hwb hmf
  with_reducible refine (H.out _ HB.out).mono ?_
  rintro e w1 ⟨rfl, hb⟩
  have HB1 := Lib.hid (HB.out.trans (hb.mono HB.out.size))
  have HE1 := Lib.hid (HE.out.call hb)
  clear hb HB HE H
  have HB3 : Hid (Below w.heap.size w (w1.setCell ⟨w.heap.size, 0, none⟩ (.int .i64 n))) := Lib.hid (HB1.out.setCell (by show w.heap.size ≤ w.heap.size; omega) _)
  have HE3 := Lib.hid (HE1.out.set 0 (.int .i64 n))
  refine leaves_cons (f := 72) (args := #[.pointer (some ⟨w.heap.size, 0, none⟩)]) (by simp) (by simp [go_sem]) ?_
  refine (catchI_panicking (w.heap.size) _ n [] _ (KB1 HE1.out) (HE1.out.frozen 0)).mono ?_
  rintro e u' w'' ⟨rfl, rfl, rfl⟩
  exact ⟨_, results_tmp_cell rfl _ _ _ rfl _ rfl _ (load_errno _ _ _ (KB1 HE3.out)), rfl, HB3.out⟩
end Go.Proofs.YteigldfdaciopaaGreatDoor
