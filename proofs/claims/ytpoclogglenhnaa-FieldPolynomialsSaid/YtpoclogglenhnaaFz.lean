/-
  The walk of chartroomlaw03.FieldPolynomials.
-/
import Derived.Test.YtpoclogglenhnaaFy
namespace Go.Proofs.Ytpoclogglenhnaa
open Go.RowKit
set_option linter.unusedVariables false
set_option linter.unusedSimpArgs false

theorem intInfo : (Try.prog.info? 3).map (fun i => (i.zero, i.size, i.bytes)) = some (some (.int .i64 0), 1, 8) := by kernel_rfl
theorem run_makeI (n : Nat) (hn : n ≤ 1000) (W : World) : (Instr.makeSlice 29 (.int .i64 (n : Int)) (.int .i64 (n : Int))).run Try.prog W = .ok (.slice (some ⟨W.heap.size, 0, none⟩) n n) (W.alloc (.cells (iv (List.replicate n 0)) 3)) := by
  obtain ⟨i0, hi, hz0, hz1, hz2⟩ := info_parts intInfo
  have h := run_make (P := Try.prog) W 29 3 i0 (.int .i64 0) Try.underlying29 hi hz0 .i64 .i64 (n : Int) (n : Int) (by omega) (by omega) (by rw [hz2]; omega) (by omega)
  rw [hz1, Int.toNat_natCast, Nat.mul_one] at h
  have e : madeCells (Value.int .i64 0).cells n = iv (List.replicate n 0) := by
    apply Array.ext'
    rw [show (Value.int .i64 0).cells = #[.int .i64 0] from rfl, toList_madeCells_one]
    simp [iv]
  rw [e] at h
  exact h
theorem IB.new (w : World) (l : List Nat) : IB (w.alloc (.cells (iv l) 3)) w.heap.size l := heap_alloc_new w _
theorem IB.alloc {w : World} {g : Nat} {l : List Nat} (h : IB w g l) (o : Obj) : IB (w.alloc o) g l := (Below.heap_alloc w o g h.lt).trans h
theorem IB.drew {w : World} {g : Nat} {l : List Nat} (h : IB w g l) : IB w.drew g l := h


theorem wpList_storeI {ops : Array Oper} {rest : List Oper} {op : Oper} {a : Act} {w : World} {Q : Exit → Act → World → Prop} (hgd : op.guard = none) (x y : Operand) (ho : op.op = .store 3 x y)
    (g i v : Nat) (l : List Nat) (hx : a.eval x = .pointer (some ⟨g, i, none⟩)) (hy : a.eval y = .int .i64 (v : Int)) (hI : IB w g l) (hi : i < l.length)
    (h : ∀ w', w' = w.setCell ⟨g, i, none⟩ (.int .i64 (v : Int)) → wpList Try.prog ops Q rest (a.put op.dst undef) w') : wpList Try.prog ops Q (op :: rest) a w :=
  wpList_plain hgd fun _ hK => by
    have c1 := hI.cell i hi
    have c2 := hI.frozen i
    have hh := hK _ _ (h _ rfl)
    unfold Oper.wp execOp
    simp only [ho, hx, hy]
    go_simp
    exact hh

/-- Where the four arrays lie. -/
structure Ds (B gp gq gs gr : Nat) : Prop where
  pq : gp ≠ gq
  ps : gp ≠ gs
  pr : gp ≠ gr
  qs : gq ≠ gs
  qr : gq ≠ gr
  sr : gs ≠ gr
  bp : B ≤ gp
  bq : B ≤ gq
  bs : B ≤ gs
  br : B ≤ gr
/-- What the four arrays hold. -/
structure St (w0 W : World) (gp gq gs gr : Nat) (lp lq ls lr : List Nat) : Prop where
  p : IB W gp lp
  q : IB W gq lq
  s : IB W gs ls
  r : IB W gr lr
  b : Below w0.heap.size w0 W
theorem St.keep {w0 W W' : World} {gp gq gs gr : Nat} {lp lq ls lr : List Nat} (h : St w0 W gp gq gs gr lp lq ls lr) (hb : Below W.heap.size W W') : St w0 W' gp gq gs gr lp lq ls lr :=
  ⟨h.p.keep hb, h.q.keep hb, h.s.keep hb, h.r.keep hb, belowNext h.b hb⟩
theorem St.setP {w0 W W' : World} {gp gq gs gr : Nat} {lp lq ls lr : List Nat} (h : St w0 W gp gq gs gr lp lq ls lr) (d : Ds w0.heap.size gp gq gs gr) (i v : Nat) (hw : W' = W.setCell ⟨gp, i, none⟩ (.int .i64 (v : Int))) : St w0 W' gp gq gs gr (lp.set i v) lq ls lr := by
  subst hw
  exact ⟨h.p.set_ i v, h.q.other (Ne.symm d.pq) i _, h.s.other (Ne.symm d.ps) i _, h.r.other (Ne.symm d.pr) i _, h.b.setCell (p := ⟨gp, i, none⟩) d.bp _⟩
theorem St.setQ {w0 W W' : World} {gp gq gs gr : Nat} {lp lq ls lr : List Nat} (h : St w0 W gp gq gs gr lp lq ls lr) (d : Ds w0.heap.size gp gq gs gr) (i v : Nat) (hw : W' = W.setCell ⟨gq, i, none⟩ (.int .i64 (v : Int))) : St w0 W' gp gq gs gr lp (lq.set i v) ls lr := by
  subst hw
  exact ⟨h.p.other d.pq i _, h.q.set_ i v, h.s.other (Ne.symm d.qs) i _, h.r.other (Ne.symm d.qr) i _, h.b.setCell (p := ⟨gq, i, none⟩) d.bq _⟩
theorem St.setS {w0 W W' : World} {gp gq gs gr : Nat} {lp lq ls lr : List Nat} (h : St w0 W gp gq gs gr lp lq ls lr) (d : Ds w0.heap.size gp gq gs gr) (i v : Nat) (hw : W' = W.setCell ⟨gs, i, none⟩ (.int .i64 (v : Int))) : St w0 W' gp gq gs gr lp lq (ls.set i v) lr := by
  subst hw
  exact ⟨h.p.other d.ps i _, h.q.other d.qs i _, h.s.set_ i v, h.r.other (Ne.symm d.sr) i _, h.b.setCell (p := ⟨gs, i, none⟩) d.bs _⟩
theorem St.setR {w0 W W' : World} {gp gq gs gr : Nat} {lp lq ls lr : List Nat} (h : St w0 W gp gq gs gr lp lq ls lr) (d : Ds w0.heap.size gp gq gs gr) (i v : Nat) (hw : W' = W.setCell ⟨gr, i, none⟩ (.int .i64 (v : Int))) : St w0 W' gp gq gs gr lp lq ls (lr.set i v) := by
  subst hw
  exact ⟨h.p.other d.pr i _, h.q.other d.qr i _, h.s.other d.sr i _, h.r.set_ i v, h.b.setCell (p := ⟨gr, i, none⟩) d.br _⟩
/-- The scalars of the coefficients that came in. -/
def fOf (l : List Int) (i : Nat) : Nat := if i < l.length then ofI (l.getD i 0) else 0
theorem fOf_lt (l : List Int) (i : Nat) : fOf l i < 2305843009213688669 := by
  unfold fOf
  by_cases h : i < l.length
  · rw [if_pos h]; exact ofI_lt _
  · rw [if_neg h]; decide
theorem IB.drewN {w : World} {g : Nat} {l : List Nat} (h : IB w g l) (m : Nat) : IB (w.drewN m) g l := h
theorem St.drewN {w0 W : World} {gp gq gs gr : Nat} {lp lq ls lr : List Nat} (h : St w0 W gp gq gs gr lp lq ls lr) (m : Nat) : St w0 (W.drewN m) gp gq gs gr lp lq ls lr := ⟨h.p, h.q, h.s, h.r, below_drewN h.b m⟩
theorem St.drew {w0 W : World} {gp gq gs gr : Nat} {lp lq ls lr : List Nat} (h : St w0 W gp gq gs gr lp lq ls lr) : St w0 W.drew gp gq gs gr lp lq ls lr := ⟨h.p, h.q, h.s, h.r, h.b.drew⟩
theorem upF_at {w : World} {g n k j : Nat} {f : Nat → Nat} (h : IB w g (upF n j f)) (hk : k < n) (hkj : k < j) : w.cell? ⟨g, k, none⟩ = some (.int .i64 (f k : Nat)) := by
  have h2 := h.cell k (by rw [upF_len]; exact hk)
  rw [upF_get _ _ _ _ hk, if_pos hkj] at h2; exact h2
theorem prF_at {w : World} {g m n k : Nat} {f : Nat → Nat} (h : IB w g (prF m n k f)) (hk : k < n) : w.cell? ⟨g, k, none⟩ = some (.int .i64 (prevF f k : Nat)) := by
  have h2 := h.cell k (by rw [prF_len]; omega)
  rw [prF_get _ _ _ _ _ (by omega), if_neg (by omega), if_pos rfl] at h2; exact h2
theorem prevF_lt (l : List Int) (k : Nat) : prevF (fOf l) k < 2305843009213688669 := by
  unfold prevF
  by_cases h : k = 0
  · rw [if_pos h]; decide
  · rw [if_neg h]; exact fOf_lt _ _
theorem evalIB (W : World) (g n cap x : Nat) (l : List Nat) (hx : x < 2305843009213688669) (hl : l.length = n) (hn : n ≤ 1000) (hs : ∀ c ∈ l, c < 2305843009213688669) (hI : IB W g l) :
    Calls Try.prog 23 #[.slice (some ⟨g, 0, none⟩) n cap, .int .i64 (x : Int)] W fun e w' => e = .returned (.tuple #[.int .i64 (evN x l : Nat), .int .i64 0]) ∧ Below W.heap.size W w' := by
  have h := fEval (some ⟨g, 0, none⟩) cap (l.map fun c : Nat => (c : Int)) x hx (fun c hc => by
    obtain ⟨a, ha, rfl⟩ := List.mem_map.1 hc; exact scal_nat (hs a ha)) W (hI.rd (by unfold maxLen; omega))
  rw [List.length_map, hl] at h
  exact h
theorem upF_zero (n : Nat) (f : Nat → Nat) : upF n 0 f = List.replicate n 0 := by
  apply getD_ext (by simp [upF])
  intro i hi
  rw [upF_len] at hi
  rw [upF_get _ _ _ _ hi]; simp [hi]

set_option maxRecDepth 100000 in
set_option maxHeartbeats 4000000 in
theorem poly_walk (ac : Option Addr) (capc : Nat) (lc : List Int) (ad : Option Addr) (capd : Nat) (ld : List Int) (x r : Int) (w : World)
    (hcr : RdI w ac lc) (hdr : RdI w ad ld) (hcb : ∀ c ∈ lc, -9223372036854775808 ≤ c ∧ c < 9223372036854775808) (hdb : ∀ c ∈ ld, -9223372036854775808 ≤ c ∧ c < 9223372036854775808)
    (hx : -9223372036854775808 ≤ x ∧ x < 9223372036854775808) (hr : -9223372036854775808 ≤ r ∧ r < 9223372036854775808) :
    Calls Try.prog 9 #[.slice ac lc.length capc, .slice ad ld.length capd, .int .i64 x, .int .i64 r] w fun e w' => e = .returned (.bool true) ∧ Below w.heap.size w w' := by
  have HC := Lib.hid hcr; have HD := Lib.hid hdr; have HCB := Lib.hid hcb; have HDB := Lib.hid hdb
  have hmc := hcr.1; have hmd := hdr.1
  unfold maxLen at hmc hmd
  clear hcr hdr hcb hdb
  by_cases h40 : 40 < lc.length
  · have f1 : decide ((40 : Int) < (lc.length : Int)) = true := decide_eq_true (by omega)
    have HB := Below.refl w.heap.size w
    clear HC HD HCB HDB
    generalize lc.length = nc at *
    generalize ld.length = nd at *
    go_enter Try.func9, Try.ntmps9
    go_wp2_with (go_at_call 10; with_reducible refine (sane_any _).mono ?_; rintro e w1 ⟨rfl, hb⟩; replace HB := belowNext HB hb; clear hb)
    go_ret
    exact ⟨rfl, HB⟩
  have f1 : decide ((40 : Int) < (lc.length : Int)) = false := decide_eq_false (by omega)
  by_cases h41 : 40 < ld.length
  · have f2 : decide ((40 : Int) < (ld.length : Int)) = true := decide_eq_true (by omega)
    have HB := Below.refl w.heap.size w
    clear HC HD HCB HDB
    generalize lc.length = nc at *
    generalize ld.length = nd at *
    go_enter Try.func9, Try.ntmps9
    go_wp2_with (go_at_call 10; with_reducible refine (sane_any _).mono ?_; rintro e w1 ⟨rfl, hb⟩; replace HB := belowNext HB hb; clear hb)
    go_ret
    exact ⟨rfl, HB⟩
  have f2 : decide ((40 : Int) < (ld.length : Int)) = false := decide_eq_false (by omega)
  have o1 := fun w => lOf x hx.1 hx.2 w
  have o2 := fun w => lOf r hr.1 hr.2 w
  have hxl := ofI_lt x
  have hrl := ofI_lt r
  generalize ofI x = X at *
  generalize ofI r = Y at *
  have ks := fun w => fSub 0 Y (by decide) hrl w
  have e0 : ((0 : Nat) : Int) = 0 := rfl
  simp only [e0] at ks
  clear e0
  have hroot := minus_root Y hrl
  have hml : dif 0 Y < 2305843009213688669 := Nat.mod_lt _ (by decide)
  generalize dif 0 Y = M at *
  obtain ⟨nc, hnc⟩ : ∃ n, lc.length = n := ⟨_, rfl⟩
  obtain ⟨nd, hnd⟩ : ∃ n, ld.length = n := ⟨_, rfl⟩
  rw [hnc] at h40 f1 hmc ⊢
  rw [hnd] at h41 f2 hmd ⊢
  obtain ⟨n, hn⟩ : ∃ n, max nc nd = n := ⟨_, rfl⟩
  have hn40 : n ≤ 40 := by omega
  have hmx : max (nc : Int) (nd : Int) = (n : Int) := by omega
  have hmk := run_makeI n (by omega)
  have hmk1 : ∀ W : World, (Instr.makeSlice 29 (.int .i64 ((n : Int) + 1)) (.int .i64 ((n : Int) + 1))).run Try.prog W = .ok (.slice (some ⟨W.heap.size, 0, none⟩) (n + 1) (n + 1)) (W.alloc (.cells (iv (List.replicate (n + 1) 0)) 3)) := run_makeI (n + 1) (by omega)
  have HNC := Lib.hid hnc; have HND := Lib.hid hnd; have HN := Lib.hid hn; have HRT := Lib.hid hroot
  clear hnc hnd hn hroot
  have HB := Below.refl w.heap.size w
  go_enter Try.func9, Try.ntmps9
  go_wp2_with (first
    | (go_at_call 10; with_reducible refine (sane_any _).mono ?_; rintro e w1 ⟨rfl, hb⟩; replace HB := belowNext HB hb; clear hb)
    | (go_at_call 25; with_reducible refine (o1 _).mono ?_; rintro e w1 ⟨rfl, hw⟩; rw [hw]; clear hw w1)
    | (go_at_call 25; with_reducible refine (o2 _).mono ?_; rintro e w1 ⟨rfl, hw⟩; rw [hw]; clear hw w1)
    | (go_at_call 13; with_reducible refine (ks _).mono ?_; rintro e w1 ⟨rfl, hb⟩; replace HB := belowNext HB hb; clear hb))
  refine region_mid (fun a' W => ∃ gp gq gs : Nat, gp ≠ gq ∧ gp ≠ gs ∧ gq ≠ gs ∧ w1.heap.size ≤ gp ∧ w1.heap.size ≤ gq ∧ w1.heap.size ≤ gs ∧ IB W gp (List.replicate n 0) ∧ IB W gq (List.replicate n 0) ∧ IB W gs (List.replicate n 0) ∧ Below w1.heap.size w1 W ∧ a' = ⟨#[Value.slice ac nc capc, Value.slice ad nd capd, Value.int IntKind.i64 x, Value.int IntKind.i64 r, undef, undef, undef, undef, Value.bool false, Value.int IntKind.i64 (X : Int), Value.int IntKind.i64 (Y : Int), Value.int IntKind.i64 (M : Int), Value.int IntKind.i64 0, Value.int IntKind.i64 (n : Int), .slice (some ⟨gp, 0, none⟩) n n, .slice (some ⟨gq, 0, none⟩) n n, .slice (some ⟨gs, 0, none⟩) n n, undef, undef, undef, undef, undef, undef, undef, undef, undef, undef, undef, undef, Value.bool true, Value.bool false, Value.slice ac nc capc, Value.int IntKind.i64 (nc : Int), Value.bool false, Value.bool false, Value.slice ad nd capd, Value.int IntKind.i64 (nd : Int), Value.bool false, Value.bool false, Value.int IntKind.i64 x, Value.int IntKind.i64 (X : Int), Value.int IntKind.i64 r, Value.int IntKind.i64 (Y : Int), Value.tuple #[Value.int IntKind.i64 (M : Int), Value.int IntKind.i64 0], Value.int IntKind.i64 (Y : Int), Value.tuple #[Value.int IntKind.i64 (M : Int), Value.int IntKind.i64 0], Value.int IntKind.i64 (M : Int), Value.int IntKind.i64 0, Value.int IntKind.i64 0, Value.bool false, Value.slice ac nc capc, Value.int IntKind.i64 (nc : Int), Value.slice ad nd capd, Value.int IntKind.i64 (nd : Int), Value.int IntKind.i64 (n : Int), .int .i64 (n : Int), .slice (some ⟨gp, 0, none⟩) n n, .int .i64 (n : Int), .slice (some ⟨gq, 0, none⟩) n n, .int .i64 (n : Int), .slice (some ⟨gs, 0, none⟩) n n, undef, undef, undef, undef, undef, undef, undef, undef, undef, undef, undef, undef, undef, undef, undef, undef, undef, undef, undef, undef, undef, undef, undef, undef, undef, undef, undef, undef, undef, undef, undef, undef, undef, undef, undef, undef, undef, undef, undef, undef, undef, undef, undef, undef, undef, undef, undef, undef, undef, undef, undef, undef, undef, undef, undef, undef, undef, undef, undef, undef, undef, undef, undef, undef, undef, undef, undef, undef, undef, undef, undef, undef, undef, undef, undef, undef, undef, undef, undef, undef, undef, undef, undef, undef, undef, undef, undef, undef, undef, undef, undef, undef, undef, undef, undef, undef, undef, undef, undef, undef, undef, undef, undef, undef, undef, undef, undef, undef, undef, undef, undef, undef, undef, undef, undef, undef, undef, undef, undef, undef, undef, undef, undef, undef, undef, undef, undef, undef, undef, undef, undef, undef], []⟩) ?hK ?hR
  case hR =>
    have ib0 := fun W : World => IB.new W (List.replicate n 0)
    have hIB : ∀ W : World, IB (((W.alloc (.cells (iv (List.replicate n 0)) 3)).alloc (.cells (iv (List.replicate n 0)) 3)).alloc (.cells (iv (List.replicate n 0)) 3)) W.heap.size (List.replicate n 0) ∧ IB (((W.alloc (.cells (iv (List.replicate n 0)) 3)).alloc (.cells (iv (List.replicate n 0)) 3)).alloc (.cells (iv (List.replicate n 0)) 3)) (W.heap.size + 1) (List.replicate n 0) ∧ IB (((W.alloc (.cells (iv (List.replicate n 0)) 3)).alloc (.cells (iv (List.replicate n 0)) 3)).alloc (.cells (iv (List.replicate n 0)) 3)) (W.heap.size + 1 + 1) (List.replicate n 0) ∧ Below W.heap.size W (((W.alloc (.cells (iv (List.replicate n 0)) 3)).alloc (.cells (iv (List.replicate n 0)) 3)).alloc (.cells (iv (List.replicate n 0)) 3)) := by
      intro W
      have h1 := IB.new (W.alloc (.cells (iv (List.replicate n 0)) 3)) (List.replicate n 0)
      have h2 := IB.new ((W.alloc (.cells (iv (List.replicate n 0)) 3)).alloc (.cells (iv (List.replicate n 0)) 3)) (List.replicate n 0)
      simp only [World.size_alloc] at h1 h2
      exact ⟨((IB.new W _).alloc _).alloc _, h1.alloc _, h2, ((((Below.refl _ W).alloc (Nat.le_refl _) _).alloc (by simp) _).alloc (by simp; omega) _)⟩
    have hI := hIB w1
    clear ib0 hIB
    go_region
    all_goals first
      | exact ⟨rfl, w1.heap.size, w1.heap.size + 1, w1.heap.size + 1 + 1, by omega, by omega, by omega, by omega, by omega, by omega, hI.1, hI.2.1, hI.2.2.1, hI.2.2.2.drew, rfl⟩
      | exact ⟨rfl, w1.heap.size, w1.heap.size + 1 + 1, w1.heap.size + 1, by omega, by omega, by omega, by omega, by omega, by omega, hI.1, hI.2.2.1, hI.2.1, hI.2.2.2.drew, rfl⟩
      | exact ⟨rfl, w1.heap.size + 1, w1.heap.size, w1.heap.size + 1 + 1, by omega, by omega, by omega, by omega, by omega, by omega, hI.2.1, hI.1, hI.2.2.1, hI.2.2.2.drew, rfl⟩
      | exact ⟨rfl, w1.heap.size + 1, w1.heap.size + 1 + 1, w1.heap.size, by omega, by omega, by omega, by omega, by omega, by omega, hI.2.1, hI.2.2.1, hI.1, hI.2.2.2.drew, rfl⟩
      | exact ⟨rfl, w1.heap.size + 1 + 1, w1.heap.size, w1.heap.size + 1, by omega, by omega, by omega, by omega, by omega, by omega, hI.2.2.1, hI.1, hI.2.1, hI.2.2.2.drew, rfl⟩
      | exact ⟨rfl, w1.heap.size + 1 + 1, w1.heap.size + 1, w1.heap.size, by omega, by omega, by omega, by omega, by omega, by omega, hI.2.2.1, hI.2.1, hI.1, hI.2.2.2.drew, rfl⟩
  case hK =>
    rintro a' w2 ⟨gp, gq, gs, n1, n2, n3, n4, n5, n6, hP, hQ, hS, hb2, rfl⟩
    have HB := belowNext HB hb2
    obtain ⟨gr, hgr⟩ : ∃ g, w2.heap.size = g := ⟨_, rfl⟩
    have hR : IB (w2.alloc (.cells (iv (List.replicate (n + 1) 0)) 3)) gr (List.replicate (n + 1) 0) := by rw [← hgr]; exact IB.new _ _
    have hp1 := hP.lt; have hq1 := hQ.lt; have hs1 := hS.lt
    have hsz := HB.size; have hsz0 := (by assumption : Below w.heap.size w w1).size
    have DS : Ds w.heap.size gp gq gs gr := ⟨n1, n2, by omega, n3, by omega, by omega, by omega, by omega, by omega, by omega⟩
    have ST : St w (w2.alloc (.cells (iv (List.replicate (n + 1) 0)) 3)) gp gq gs gr (upF n 0 (fOf lc)) (upF n 0 (fOf ld)) (upF n 0 (fun i => (fOf lc i + fOf ld i) % 2305843009213688669)) (prF M n 0 (fOf lc)) := by
      rw [upF_zero, upF_zero, upF_zero, prF_zero]
      exact ⟨hP.alloc _, hQ.alloc _, hS.alloc _, hR, HB.alloc hsz _⟩
    clear hP hQ hS hR hb2 HB n1 n2 n3 n4 n5 n6 hp1 hq1 hs1 hsz hsz0
    have hmkw := hmk1 w2
    rw [hgr] at hmkw
    clear hmk hmk1 hgr
    generalize w2.alloc (.cells (iv (List.replicate (n + 1) 0)) 3) = w3 at *
    go_wp2_with fail
    go_loopw [18] (fun i wr => ∃ k : Nat, k ≤ n ∧ i = .int .i64 k ∧ St w wr gp gq gs gr (upF n k (fOf lc)) (upF n k (fOf ld)) (upF n k (fun i => (fOf lc i + fOf ld i) % 2305843009213688669)) (prF M n k (fOf lc))) (fun i _ => n - (intOf i).toNat)
    case atStart => exact ⟨0, Nat.zero_le _, rfl, ST⟩
    case round =>
      clear ST
      have hn40' : n ≤ 1000 := by omega
      obtain ⟨k, hk, rfl, ST⟩ := hrel
      by_cases hlt : k < n
      · have g0 : decide ((k : Int) < (n : Int)) = true := decide_eq_true (by omega)
        have hfl := fOf_lt lc k
        have hkI : (k : Int) ≤ (n : Int) := by omega
        have hkI2 : (k : Int) < (n : Int) := by omega
        have hkI3 : (0 : Int) ≤ (k : Int) := by omega
        have hq1 : (k : Int) < (n : Int) + 1 := by omega
        have hq2 : ¬ ((n : Int) + 1 ≤ (k : Int)) := by omega
        have hq3 : ¬ ((n : Int) < (k : Int)) := by omega
        have hq5 : k < n + 1 := by omega
        have hq6 : ¬ (n < k) := by omega
        have hkw := wrapI ((k : Int) + 1) (by omega) (by omega)
        have hgl := fOf_lt ld k
        have hlp : k < (upF n k (fOf lc)).length := by rw [upF_len]; exact hlt
        have hlq : k < (upF n k (fOf ld)).length := by rw [upF_len]; exact hlt
        have hls : k < (upF n k (fun i => (fOf lc i + fOf ld i) % 2305843009213688669)).length := by rw [upF_len]; exact hlt
        by_cases hc : k < nc
        · have g1 : decide ((k : Int) < (nc : Int)) = true := decide_eq_true (by omega)
          by_cases hd : k < nd
          · have g2 : decide ((k : Int) < (nd : Int)) = true := decide_eq_true (by omega)
            have hc' : k < lc.length := by rw [HNC.out]; exact hc
            obtain ⟨pc, hpc, hcc⟩ : ∃ p, ac = some p ∧ ∀ W, Below w.heap.size w W → W.cell? (p.add k) = some (.int .i64 (lc.getD k 0)) := by
              rcases HC.out.2 with h | ⟨q, ha, hq⟩
              · rw [h] at hc'; exact absurd hc' (Nat.not_lt_zero _)
              · refine ⟨q, ha, fun W hW => ?_⟩
                rcases (HC.out.below hW).2 with h | ⟨q', ha', hq'⟩
                · rw [h] at hc'; exact absurd hc' (Nat.not_lt_zero _)
                · rw [ha] at ha'; cases ha'; rw [hq' k hc']; simp [hc']
            subst hpc
            have hoc := fun w => lOf (lc.getD k 0) (HCB.out _ (by simp [hc'])).1 (HCB.out _ (by simp [hc'])).2 w
            have hvc : ofI (lc.getD k 0) = fOf lc k := by unfold fOf; rw [if_pos hc']
            simp only [hvc] at hoc
            clear hvc hc'
            have HXc := Lib.hid hcc
            clear hcc
            generalize lc.getD k 0 = cv at *
            have hd' : k < ld.length := by rw [HND.out]; exact hd
            obtain ⟨pd, hpd, hcd⟩ : ∃ p, ad = some p ∧ ∀ W, Below w.heap.size w W → W.cell? (p.add k) = some (.int .i64 (ld.getD k 0)) := by
              rcases HD.out.2 with h | ⟨q, ha, hq⟩
              · rw [h] at hd'; exact absurd hd' (Nat.not_lt_zero _)
              · refine ⟨q, ha, fun W hW => ?_⟩
                rcases (HD.out.below hW).2 with h | ⟨q', ha', hq'⟩
                · rw [h] at hd'; exact absurd hd' (Nat.not_lt_zero _)
                · rw [ha] at ha'; cases ha'; rw [hq' k hd']; simp [hd']
            subst hpd
            have hod := fun w => lOf (ld.getD k 0) (HDB.out _ (by simp [hd'])).1 (HDB.out _ (by simp [hd'])).2 w
            have hvd : ofI (ld.getD k 0) = fOf ld k := by unfold fOf; rw [if_pos hd']
            simp only [hvd] at hod
            clear hvd hd'
            have HXd := Lib.hid hcd
            clear hcd
            generalize ld.getD k 0 = dv at *
            have hcc := HXc.out _ ST.b
            have HST := Lib.hid ST
            clear ST
            go_wp2_with (first
              | (go_at_call 25; with_reducible refine (hoc _).mono ?_; rintro e w1 ⟨rfl, hw⟩; rw [hw]; clear hw w1)
              | (go_at_call 25; with_reducible refine (hod _).mono ?_; rintro e w1 ⟨rfl, hw⟩; rw [hw]; clear hw w1)
              | (refine wpList_storeI rfl (.tmp 80) (.tmp 79) rfl gp k (fOf lc k) _ rfl rfl HST.out.p hlp ?_; intro W1 hW1; have ST := HST.out.setP DS k _ hW1; rw [upF_set n k (fOf lc) hlt _ rfl] at ST; clear HST hW1 hcc; have HST := Lib.hid ST; have hdd := HXd.out _ ST.b; clear ST)
              | (refine wpList_storeI rfl (.tmp 92) (.tmp 91) rfl gq k (fOf ld k) _ rfl rfl HST.out.q hlq ?_; intro W2 hW2; have ST := HST.out.setQ DS k _ hW2; rw [upF_set n k (fOf ld) hlt _ rfl] at ST; clear HST hW2 hdd; have HST := Lib.hid ST; clear ST))
            have cp := upF_at HST.out.p hlt (Nat.lt_succ_self k)
            have cq := upF_at HST.out.q hlt (Nat.lt_succ_self k)
            have cs := HST.out.s.cell k hls
            have fs := HST.out.s.frozen k
            obtain ⟨V, hV⟩ : ∃ V, (fOf lc k + fOf ld k) % 2305843009213688669 = V := ⟨_, rfl⟩
            have k19 := fun w => ladd (fOf lc k) (fOf ld k) hfl hgl w
            simp only [hV] at k19
            have HV := Lib.hid hV
            clear hV
            go_region_held3 (fun w' => w'.cell? ⟨gp, k, none⟩ = some (.int .i64 (fOf lc k : Nat)) ∧ w'.cell? ⟨gq, k, none⟩ = some (.int .i64 (fOf ld k : Nat)))
              (first
                | exact ⟨cp, cq⟩
                | exact ⟨upF_at ST4.p hlt (Nat.lt_succ_self k), upF_at ST4.q hlt (Nat.lt_succ_self k)⟩
                | exact ⟨(World.cell?_setCell_other _ _ _ _ (by intro h; injection h with h1 h2; exact DS.ps h1.symm)).trans (upF_at ST4.p hlt (Nat.lt_succ_self k)), (World.cell?_setCell_other _ _ _ _ (by intro h; injection h with h1 h2; exact DS.qs h1.symm)).trans (upF_at ST4.q hlt (Nat.lt_succ_self k))⟩)
              (first
                | (go_at_call 26
                   with_reducible refine (k19 _).mono ?_
                   rintro e w4 ⟨rfl, hb4⟩
                   have ST4 := (HST.out.drew).keep hb4
                   have cs4 := ST4.s.cell k hls
                   have fs4 := ST4.s.frozen k))
            have ST5 := ST4.setS DS k V rfl
            rw [upF_set n k (fun i => (fOf lc i + fOf ld i) % 2305843009213688669) hlt V HV.out.symm] at ST5
            rename_i hHeld
            clear hHeld cs4 fs4 ST4 HST hb4 cp cq cs fs k19 HV
            generalize w4.setCell ⟨gs, k, none⟩ (.int .i64 (V : Int)) = w5 at *
            have HST := Lib.hid ST5
            have c5p := upF_at ST5.p hlt (Nat.lt_succ_self k)
            have c5r := prF_at ST5.r hlt
            have f5r := ST5.r.frozen k
            clear ST5
            have hpv := prevF_lt lc k
            obtain ⟨m1, hm1⟩ : ∃ m, M * fOf lc k % 2305843009213688669 = m := ⟨_, rfl⟩
            obtain ⟨m2, hm2⟩ : ∃ m, (prevF (fOf lc) k + m1) % 2305843009213688669 = m := ⟨_, rfl⟩
            have hm1l : m1 < 2305843009213688669 := by rw [← hm1]; exact Nat.mod_lt _ (by decide)
            have k20 := fun w => lmul M (fOf lc k) hml hfl w
            have k21 := fun w => ladd (prevF (fOf lc) k) m1 hpv hm1l w
            simp only [hm1] at k20
            simp only [hm2] at k21
            have HM : Hid ((prevF (fOf lc) k + M * fOf lc k % 2305843009213688669) % 2305843009213688669 = m2) := Lib.hid (by rw [hm1]; exact hm2)
            clear hm1 hm2
            obtain ⟨pv, hpvd⟩ : ∃ v, prevF (fOf lc) k = v := ⟨_, rfl⟩
            rw [hpvd] at c5r
            simp only [hpvd] at k21
            have HPV := Lib.hid hpvd
            clear hpvd
            go_wp2_with fail
            go_region_with
              (first
                | (go_at_call 27
                   with_reducible refine (k20 _).mono ?_
                   rintro e w6 ⟨rfl, hb6⟩
                   have ST6 := (HST.out.drew).keep hb6
                   have c6r := (prF_at ST6.r hlt).trans (by rw [HPV.out])
                   have f6r := ST6.r.frozen k)
                | (go_at_call 26
                   with_reducible refine (k21 _).mono ?_
                   rintro e w7 ⟨rfl, hb7⟩
                   have ST7 := ST6.keep hb7
                   have c7r := (prF_at ST7.r hlt).trans (by rw [HPV.out])
                   have f7r := ST7.r.frozen k))
            all_goals
              have ST8 := ST7.setR DS k m2 rfl
              rw [← HM.out] at ST8
              clear ST7 ST6 hb6 hb7 c6r f6r c7r f7r HST k20 k21 c5p c5r f5r
              rw [HM.out] at ST8
              generalize w7.setCell ⟨gr, k, none⟩ (.int .i64 (m2 : Int)) = w8 at *
              rw [← HM.out] at ST8
              have c8p := upF_at ST8.p hlt (Nat.lt_succ_self k)
              have HST := Lib.hid ST8
              clear ST8
              have hlr : k + 1 < ((prF M n k (fOf lc)).set k ((prevF (fOf lc) k + M * fOf lc k % 2305843009213688669) % 2305843009213688669)).length := by rw [List.length_set, prF_len]; omega
              go_wp2_with (refine wpList_storeI rfl (.tmp 126) (.tmp 125) rfl gr (k + 1) (fOf lc k) _ rfl rfl HST.out.r hlr ?_; intro w9 hw9; have ST9 := HST.out.setR DS (k + 1) _ hw9; rw [prF_step M n k (fOf lc) hlt] at ST9; clear HST hw9 c8p; have HST := Lib.hid ST9; clear ST9)
              go_roundw
              case rel => exact ⟨k + 1, by omega, by go_num, HST.out⟩
              case measure => simp [intOf]; omega
          · have g2 : decide ((k : Int) < (nd : Int)) = false := decide_eq_false (by omega)
            have hc' : k < lc.length := by rw [HNC.out]; exact hc
            obtain ⟨pc, hpc, hcc⟩ : ∃ p, ac = some p ∧ ∀ W, Below w.heap.size w W → W.cell? (p.add k) = some (.int .i64 (lc.getD k 0)) := by
              rcases HC.out.2 with h | ⟨q, ha, hq⟩
              · rw [h] at hc'; exact absurd hc' (Nat.not_lt_zero _)
              · refine ⟨q, ha, fun W hW => ?_⟩
                rcases (HC.out.below hW).2 with h | ⟨q', ha', hq'⟩
                · rw [h] at hc'; exact absurd hc' (Nat.not_lt_zero _)
                · rw [ha] at ha'; cases ha'; rw [hq' k hc']; simp [hc']
            subst hpc
            have hoc := fun w => lOf (lc.getD k 0) (HCB.out _ (by simp [hc'])).1 (HCB.out _ (by simp [hc'])).2 w
            have hvc : ofI (lc.getD k 0) = fOf lc k := by unfold fOf; rw [if_pos hc']
            simp only [hvc] at hoc
            clear hvc hc'
            have HXc := Lib.hid hcc
            clear hcc
            generalize lc.getD k 0 = cv at *
            rw [upF_skip n k (fOf ld) (by unfold fOf; rw [if_neg (by rw [HND.out]; exact hd)])] at ST
            have hcc := HXc.out _ ST.b
            have HST := Lib.hid ST
            clear ST
            go_wp2_with (first
              | (go_at_call 25; with_reducible refine (hoc _).mono ?_; rintro e w1 ⟨rfl, hw⟩; rw [hw]; clear hw w1)
              | (refine wpList_storeI rfl (.tmp 80) (.tmp 79) rfl gp k (fOf lc k) _ rfl rfl HST.out.p hlp ?_; intro W1 hW1; have ST := HST.out.setP DS k _ hW1; rw [upF_set n k (fOf lc) hlt _ rfl] at ST; clear HST hW1 hcc; have HST := Lib.hid ST; clear ST))
            have cp := upF_at HST.out.p hlt (Nat.lt_succ_self k)
            have cq := upF_at HST.out.q hlt (Nat.lt_succ_self k)
            have cs := HST.out.s.cell k hls
            have fs := HST.out.s.frozen k
            obtain ⟨V, hV⟩ : ∃ V, (fOf lc k + fOf ld k) % 2305843009213688669 = V := ⟨_, rfl⟩
            have k19 := fun w => ladd (fOf lc k) (fOf ld k) hfl hgl w
            simp only [hV] at k19
            have HV := Lib.hid hV
            clear hV
            go_region_held3 (fun w' => w'.cell? ⟨gp, k, none⟩ = some (.int .i64 (fOf lc k : Nat)) ∧ w'.cell? ⟨gq, k, none⟩ = some (.int .i64 (fOf ld k : Nat)))
              (first
                | exact ⟨cp, cq⟩
                | exact ⟨upF_at ST4.p hlt (Nat.lt_succ_self k), upF_at ST4.q hlt (Nat.lt_succ_self k)⟩
                | exact ⟨(World.cell?_setCell_other _ _ _ _ (by intro h; injection h with h1 h2; exact DS.ps h1.symm)).trans (upF_at ST4.p hlt (Nat.lt_succ_self k)), (World.cell?_setCell_other _ _ _ _ (by intro h; injection h with h1 h2; exact DS.qs h1.symm)).trans (upF_at ST4.q hlt (Nat.lt_succ_self k))⟩)
              (first
                | (go_at_call 26
                   with_reducible refine (k19 _).mono ?_
                   rintro e w4 ⟨rfl, hb4⟩
                   have ST4 := (HST.out.drew).keep hb4
                   have cs4 := ST4.s.cell k hls
                   have fs4 := ST4.s.frozen k))
            have ST5 := ST4.setS DS k V rfl
            rw [upF_set n k (fun i => (fOf lc i + fOf ld i) % 2305843009213688669) hlt V HV.out.symm] at ST5
            rename_i hHeld
            clear hHeld cs4 fs4 ST4 HST hb4 cp cq cs fs k19 HV
            generalize w4.setCell ⟨gs, k, none⟩ (.int .i64 (V : Int)) = w5 at *
            have HST := Lib.hid ST5
            have c5p := upF_at ST5.p hlt (Nat.lt_succ_self k)
            have c5r := prF_at ST5.r hlt
            have f5r := ST5.r.frozen k
            clear ST5
            have hpv := prevF_lt lc k
            obtain ⟨m1, hm1⟩ : ∃ m, M * fOf lc k % 2305843009213688669 = m := ⟨_, rfl⟩
            obtain ⟨m2, hm2⟩ : ∃ m, (prevF (fOf lc) k + m1) % 2305843009213688669 = m := ⟨_, rfl⟩
            have hm1l : m1 < 2305843009213688669 := by rw [← hm1]; exact Nat.mod_lt _ (by decide)
            have k20 := fun w => lmul M (fOf lc k) hml hfl w
            have k21 := fun w => ladd (prevF (fOf lc) k) m1 hpv hm1l w
            simp only [hm1] at k20
            simp only [hm2] at k21
            have HM : Hid ((prevF (fOf lc) k + M * fOf lc k % 2305843009213688669) % 2305843009213688669 = m2) := Lib.hid (by rw [hm1]; exact hm2)
            clear hm1 hm2
            obtain ⟨pv, hpvd⟩ : ∃ v, prevF (fOf lc) k = v := ⟨_, rfl⟩
            rw [hpvd] at c5r
            simp only [hpvd] at k21
            have HPV := Lib.hid hpvd
            clear hpvd
            go_wp2_with fail
            go_region_with
              (first
                | (go_at_call 27
                   with_reducible refine (k20 _).mono ?_
                   rintro e w6 ⟨rfl, hb6⟩
                   have ST6 := (HST.out.drew).keep hb6
                   have c6r := (prF_at ST6.r hlt).trans (by rw [HPV.out])
                   have f6r := ST6.r.frozen k)
                | (go_at_call 26
                   with_reducible refine (k21 _).mono ?_
                   rintro e w7 ⟨rfl, hb7⟩
                   have ST7 := ST6.keep hb7
                   have c7r := (prF_at ST7.r hlt).trans (by rw [HPV.out])
                   have f7r := ST7.r.frozen k))
            all_goals
              have ST8 := ST7.setR DS k m2 rfl
              rw [← HM.out] at ST8
              clear ST7 ST6 hb6 hb7 c6r f6r c7r f7r HST k20 k21 c5p c5r f5r
              rw [HM.out] at ST8
              generalize w7.setCell ⟨gr, k, none⟩ (.int .i64 (m2 : Int)) = w8 at *
              rw [← HM.out] at ST8
              have c8p := upF_at ST8.p hlt (Nat.lt_succ_self k)
              have HST := Lib.hid ST8
              clear ST8
              have hlr : k + 1 < ((prF M n k (fOf lc)).set k ((prevF (fOf lc) k + M * fOf lc k % 2305843009213688669) % 2305843009213688669)).length := by rw [List.length_set, prF_len]; omega
              go_wp2_with (refine wpList_storeI rfl (.tmp 126) (.tmp 125) rfl gr (k + 1) (fOf lc k) _ rfl rfl HST.out.r hlr ?_; intro w9 hw9; have ST9 := HST.out.setR DS (k + 1) _ hw9; rw [prF_step M n k (fOf lc) hlt] at ST9; clear HST hw9 c8p; have HST := Lib.hid ST9; clear ST9)
              go_roundw
              case rel => exact ⟨k + 1, by omega, by go_num, HST.out⟩
              case measure => simp [intOf]; omega
        · have g1 : decide ((k : Int) < (nc : Int)) = false := decide_eq_false (by omega)
          by_cases hd : k < nd
          · have g2 : decide ((k : Int) < (nd : Int)) = true := decide_eq_true (by omega)
            rw [upF_skip n k (fOf lc) (by unfold fOf; rw [if_neg (by rw [HNC.out]; exact hc)])] at ST
            have hd' : k < ld.length := by rw [HND.out]; exact hd
            obtain ⟨pd, hpd, hcd⟩ : ∃ p, ad = some p ∧ ∀ W, Below w.heap.size w W → W.cell? (p.add k) = some (.int .i64 (ld.getD k 0)) := by
              rcases HD.out.2 with h | ⟨q, ha, hq⟩
              · rw [h] at hd'; exact absurd hd' (Nat.not_lt_zero _)
              · refine ⟨q, ha, fun W hW => ?_⟩
                rcases (HD.out.below hW).2 with h | ⟨q', ha', hq'⟩
                · rw [h] at hd'; exact absurd hd' (Nat.not_lt_zero _)
                · rw [ha] at ha'; cases ha'; rw [hq' k hd']; simp [hd']
            subst hpd
            have hod := fun w => lOf (ld.getD k 0) (HDB.out _ (by simp [hd'])).1 (HDB.out _ (by simp [hd'])).2 w
            have hvd : ofI (ld.getD k 0) = fOf ld k := by unfold fOf; rw [if_pos hd']
            simp only [hvd] at hod
            clear hvd hd'
            have HXd := Lib.hid hcd
            clear hcd
            generalize ld.getD k 0 = dv at *
            have hdd := HXd.out _ ST.b
            have HST := Lib.hid ST
            clear ST
            go_wp2_with (first
              | (go_at_call 25; with_reducible refine (hod _).mono ?_; rintro e w1 ⟨rfl, hw⟩; rw [hw]; clear hw w1)
              | (refine wpList_storeI rfl (.tmp 92) (.tmp 91) rfl gq k (fOf ld k) _ rfl rfl HST.out.q hlq ?_; intro W2 hW2; have ST := HST.out.setQ DS k _ hW2; rw [upF_set n k (fOf ld) hlt _ rfl] at ST; clear HST hW2 hdd; have HST := Lib.hid ST; clear ST))
            have cp := upF_at HST.out.p hlt (Nat.lt_succ_self k)
            have cq := upF_at HST.out.q hlt (Nat.lt_succ_self k)
            have cs := HST.out.s.cell k hls
            have fs := HST.out.s.frozen k
            obtain ⟨V, hV⟩ : ∃ V, (fOf lc k + fOf ld k) % 2305843009213688669 = V := ⟨_, rfl⟩
            have k19 := fun w => ladd (fOf lc k) (fOf ld k) hfl hgl w
            simp only [hV] at k19
            have HV := Lib.hid hV
            clear hV
            go_region_held3 (fun w' => w'.cell? ⟨gp, k, none⟩ = some (.int .i64 (fOf lc k : Nat)) ∧ w'.cell? ⟨gq, k, none⟩ = some (.int .i64 (fOf ld k : Nat)))
              (first
                | exact ⟨cp, cq⟩
                | exact ⟨upF_at ST4.p hlt (Nat.lt_succ_self k), upF_at ST4.q hlt (Nat.lt_succ_self k)⟩
                | exact ⟨(World.cell?_setCell_other _ _ _ _ (by intro h; injection h with h1 h2; exact DS.ps h1.symm)).trans (upF_at ST4.p hlt (Nat.lt_succ_self k)), (World.cell?_setCell_other _ _ _ _ (by intro h; injection h with h1 h2; exact DS.qs h1.symm)).trans (upF_at ST4.q hlt (Nat.lt_succ_self k))⟩)
              (first
                | (go_at_call 26
                   with_reducible refine (k19 _).mono ?_
                   rintro e w4 ⟨rfl, hb4⟩
                   have ST4 := (HST.out.drew).keep hb4
                   have cs4 := ST4.s.cell k hls
                   have fs4 := ST4.s.frozen k))
            have ST5 := ST4.setS DS k V rfl
            rw [upF_set n k (fun i => (fOf lc i + fOf ld i) % 2305843009213688669) hlt V HV.out.symm] at ST5
            rename_i hHeld
            clear hHeld cs4 fs4 ST4 HST hb4 cp cq cs fs k19 HV
            generalize w4.setCell ⟨gs, k, none⟩ (.int .i64 (V : Int)) = w5 at *
            have HST := Lib.hid ST5
            have c5p := upF_at ST5.p hlt (Nat.lt_succ_self k)
            have c5r := prF_at ST5.r hlt
            have f5r := ST5.r.frozen k
            clear ST5
            have hpv := prevF_lt lc k
            obtain ⟨m1, hm1⟩ : ∃ m, M * fOf lc k % 2305843009213688669 = m := ⟨_, rfl⟩
            obtain ⟨m2, hm2⟩ : ∃ m, (prevF (fOf lc) k + m1) % 2305843009213688669 = m := ⟨_, rfl⟩
            have hm1l : m1 < 2305843009213688669 := by rw [← hm1]; exact Nat.mod_lt _ (by decide)
            have k20 := fun w => lmul M (fOf lc k) hml hfl w
            have k21 := fun w => ladd (prevF (fOf lc) k) m1 hpv hm1l w
            simp only [hm1] at k20
            simp only [hm2] at k21
            have HM : Hid ((prevF (fOf lc) k + M * fOf lc k % 2305843009213688669) % 2305843009213688669 = m2) := Lib.hid (by rw [hm1]; exact hm2)
            clear hm1 hm2
            obtain ⟨pv, hpvd⟩ : ∃ v, prevF (fOf lc) k = v := ⟨_, rfl⟩
            rw [hpvd] at c5r
            simp only [hpvd] at k21
            have HPV := Lib.hid hpvd
            clear hpvd
            go_wp2_with fail
            go_region_with
              (first
                | (go_at_call 27
                   with_reducible refine (k20 _).mono ?_
                   rintro e w6 ⟨rfl, hb6⟩
                   have ST6 := (HST.out.drew).keep hb6
                   have c6r := (prF_at ST6.r hlt).trans (by rw [HPV.out])
                   have f6r := ST6.r.frozen k)
                | (go_at_call 26
                   with_reducible refine (k21 _).mono ?_
                   rintro e w7 ⟨rfl, hb7⟩
                   have ST7 := ST6.keep hb7
                   have c7r := (prF_at ST7.r hlt).trans (by rw [HPV.out])
                   have f7r := ST7.r.frozen k))
            all_goals
              have ST8 := ST7.setR DS k m2 rfl
              rw [← HM.out] at ST8
              clear ST7 ST6 hb6 hb7 c6r f6r c7r f7r HST k20 k21 c5p c5r f5r
              rw [HM.out] at ST8
              generalize w7.setCell ⟨gr, k, none⟩ (.int .i64 (m2 : Int)) = w8 at *
              rw [← HM.out] at ST8
              have c8p := upF_at ST8.p hlt (Nat.lt_succ_self k)
              have HST := Lib.hid ST8
              clear ST8
              have hlr : k + 1 < ((prF M n k (fOf lc)).set k ((prevF (fOf lc) k + M * fOf lc k % 2305843009213688669) % 2305843009213688669)).length := by rw [List.length_set, prF_len]; omega
              go_wp2_with (refine wpList_storeI rfl (.tmp 126) (.tmp 125) rfl gr (k + 1) (fOf lc k) _ rfl rfl HST.out.r hlr ?_; intro w9 hw9; have ST9 := HST.out.setR DS (k + 1) _ hw9; rw [prF_step M n k (fOf lc) hlt] at ST9; clear HST hw9 c8p; have HST := Lib.hid ST9; clear ST9)
              go_roundw
              case rel => exact ⟨k + 1, by omega, by go_num, HST.out⟩
              case measure => simp [intOf]; omega
          · have g2 : decide ((k : Int) < (nd : Int)) = false := decide_eq_false (by omega)
            rw [upF_skip n k (fOf lc) (by unfold fOf; rw [if_neg (by rw [HNC.out]; exact hc)])] at ST
            rw [upF_skip n k (fOf ld) (by unfold fOf; rw [if_neg (by rw [HND.out]; exact hd)])] at ST
            have HST := Lib.hid ST
            clear ST
            go_wp2_with fail
            have cp := upF_at HST.out.p hlt (Nat.lt_succ_self k)
            have cq := upF_at HST.out.q hlt (Nat.lt_succ_self k)
            have cs := HST.out.s.cell k hls
            have fs := HST.out.s.frozen k
            obtain ⟨V, hV⟩ : ∃ V, (fOf lc k + fOf ld k) % 2305843009213688669 = V := ⟨_, rfl⟩
            have k19 := fun w => ladd (fOf lc k) (fOf ld k) hfl hgl w
            simp only [hV] at k19
            have HV := Lib.hid hV
            clear hV
            go_region_held3 (fun w' => w'.cell? ⟨gp, k, none⟩ = some (.int .i64 (fOf lc k : Nat)) ∧ w'.cell? ⟨gq, k, none⟩ = some (.int .i64 (fOf ld k : Nat)))
              (first
                | exact ⟨cp, cq⟩
                | exact ⟨upF_at ST4.p hlt (Nat.lt_succ_self k), upF_at ST4.q hlt (Nat.lt_succ_self k)⟩
                | exact ⟨(World.cell?_setCell_other _ _ _ _ (by intro h; injection h with h1 h2; exact DS.ps h1.symm)).trans (upF_at ST4.p hlt (Nat.lt_succ_self k)), (World.cell?_setCell_other _ _ _ _ (by intro h; injection h with h1 h2; exact DS.qs h1.symm)).trans (upF_at ST4.q hlt (Nat.lt_succ_self k))⟩)
              (first
                | (go_at_call 26
                   with_reducible refine (k19 _).mono ?_
                   rintro e w4 ⟨rfl, hb4⟩
                   have ST4 := (HST.out.drew).keep hb4
                   have cs4 := ST4.s.cell k hls
                   have fs4 := ST4.s.frozen k))
            have ST5 := ST4.setS DS k V rfl
            rw [upF_set n k (fun i => (fOf lc i + fOf ld i) % 2305843009213688669) hlt V HV.out.symm] at ST5
            rename_i hHeld
            clear hHeld cs4 fs4 ST4 HST hb4 cp cq cs fs k19 HV
            generalize w4.setCell ⟨gs, k, none⟩ (.int .i64 (V : Int)) = w5 at *
            have HST := Lib.hid ST5
            have c5p := upF_at ST5.p hlt (Nat.lt_succ_self k)
            have c5r := prF_at ST5.r hlt
            have f5r := ST5.r.frozen k
            clear ST5
            have hpv := prevF_lt lc k
            obtain ⟨m1, hm1⟩ : ∃ m, M * fOf lc k % 2305843009213688669 = m := ⟨_, rfl⟩
            obtain ⟨m2, hm2⟩ : ∃ m, (prevF (fOf lc) k + m1) % 2305843009213688669 = m := ⟨_, rfl⟩
            have hm1l : m1 < 2305843009213688669 := by rw [← hm1]; exact Nat.mod_lt _ (by decide)
            have k20 := fun w => lmul M (fOf lc k) hml hfl w
            have k21 := fun w => ladd (prevF (fOf lc) k) m1 hpv hm1l w
            simp only [hm1] at k20
            simp only [hm2] at k21
            have HM : Hid ((prevF (fOf lc) k + M * fOf lc k % 2305843009213688669) % 2305843009213688669 = m2) := Lib.hid (by rw [hm1]; exact hm2)
            clear hm1 hm2
            obtain ⟨pv, hpvd⟩ : ∃ v, prevF (fOf lc) k = v := ⟨_, rfl⟩
            rw [hpvd] at c5r
            simp only [hpvd] at k21
            have HPV := Lib.hid hpvd
            clear hpvd
            go_wp2_with fail
            go_region_with
              (first
                | (go_at_call 27
                   with_reducible refine (k20 _).mono ?_
                   rintro e w6 ⟨rfl, hb6⟩
                   have ST6 := (HST.out.drew).keep hb6
                   have c6r := (prF_at ST6.r hlt).trans (by rw [HPV.out])
                   have f6r := ST6.r.frozen k)
                | (go_at_call 26
                   with_reducible refine (k21 _).mono ?_
                   rintro e w7 ⟨rfl, hb7⟩
                   have ST7 := ST6.keep hb7
                   have c7r := (prF_at ST7.r hlt).trans (by rw [HPV.out])
                   have f7r := ST7.r.frozen k))
            all_goals
              have ST8 := ST7.setR DS k m2 rfl
              rw [← HM.out] at ST8
              clear ST7 ST6 hb6 hb7 c6r f6r c7r f7r HST k20 k21 c5p c5r f5r
              rw [HM.out] at ST8
              generalize w7.setCell ⟨gr, k, none⟩ (.int .i64 (m2 : Int)) = w8 at *
              rw [← HM.out] at ST8
              have c8p := upF_at ST8.p hlt (Nat.lt_succ_self k)
              have HST := Lib.hid ST8
              clear ST8
              have hlr : k + 1 < ((prF M n k (fOf lc)).set k ((prevF (fOf lc) k + M * fOf lc k % 2305843009213688669) % 2305843009213688669)).length := by rw [List.length_set, prF_len]; omega
              go_wp2_with (refine wpList_storeI rfl (.tmp 126) (.tmp 125) rfl gr (k + 1) (fOf lc k) _ rfl rfl HST.out.r hlr ?_; intro w9 hw9; have ST9 := HST.out.setR DS (k + 1) _ hw9; rw [prF_step M n k (fOf lc) hlt] at ST9; clear HST hw9 c8p; have HST := Lib.hid ST9; clear ST9)
              go_roundw
              case rel => exact ⟨k + 1, by omega, by go_num, HST.out⟩
              case measure => simp [intOf]; omega
      · obtain rfl : k = n := by omega
        have g0 : decide ((k : Int) < (k : Int)) = false := decide_eq_false (by omega)
        have HST := Lib.hid ST
        clear ST
        have hPb : ∀ c ∈ upF k k (fOf lc), c < 2305843009213688669 := fun c hc => by
          unfold upF at hc; obtain ⟨i, hi, rfl⟩ := List.mem_map.1 hc; rw [if_pos (by simpa using hi)]; exact fOf_lt _ _
        have kP := fun W hI => evalIB W gp k k X (upF k k (fOf lc)) hxl (upF_len _ _ _) hn40' hPb hI
        have kQ' := fun W hI => evalIB W gq k k X (upF k k (fOf ld)) hxl (upF_len _ _ _) hn40' (fun c hc => by
          unfold upF at hc; obtain ⟨i, hi, rfl⟩ := List.mem_map.1 hc; rw [if_pos (by simpa using hi)]; exact fOf_lt _ _) hI
        have kS := fun W hI => evalIB W gs k k X (upF k k (fun i => (fOf lc i + fOf ld i) % 2305843009213688669)) hxl (upF_len _ _ _) hn40' (fun c hc => by
          unfold upF at hc; obtain ⟨i, hi, rfl⟩ := List.mem_map.1 hc; rw [if_pos (by simpa using hi)]; exact Nat.mod_lt _ (by decide)) hI
        have hRb : ∀ c ∈ prF M k k (fOf lc), c < 2305843009213688669 := fun c hc => by
          unfold prF at hc; obtain ⟨i, hi, rfl⟩ := List.mem_map.1 hc
          by_cases h1 : i < k
          · rw [if_pos h1]; exact Nat.mod_lt _ (by decide)
          · rw [if_neg h1]
            by_cases h2 : i = k
            · rw [if_pos h2]; exact prevF_lt _ _
            · rw [if_neg h2]; decide
        have kR := fun W hI => evalIB W gr (k + 1) (k + 1) X (prF M k k (fOf lc)) hxl (prF_len _ _ _ _) (by omega) hRb hI
        have kR2 := fun W hI => evalIB W gr (k + 1) (k + 1) Y (prF M k k (fOf lc)) hrl (prF_len _ _ _ _) (by omega) hRb hI
        have vS : evN X (upF k k (fun i => (fOf lc i + fOf ld i) % 2305843009213688669)) = (evN X (upF k k (fOf lc)) + evN X (upF k k (fOf ld))) % 2305843009213688669 := by
          rw [upF_zip, evN_sum X _ _ (by rw [upF_len, upF_len])]
        have vR : evN X (prF M k k (fOf lc)) = evN X (upF k k (fOf lc)) * ((X + M) % 2305843009213688669) % 2305843009213688669 := by rw [prF_full]; exact evN_mul X M _ hPb
        have vZ : evN Y (prF M k k (fOf lc)) = 0 := by rw [prF_full, evN_mul Y M _ hPb, HRT.out, Nat.mul_zero, Nat.zero_mod]
        have lA := evN_lt X (upF k k (fOf lc))
        have lB := evN_lt X (upF k k (fOf ld))
        simp only [vZ] at kR2
        generalize evN X (upF k k (fOf lc)) = A at *
        generalize evN X (upF k k (fOf ld)) = B at *
        generalize evN X (upF k k (fun i => (fOf lc i + fOf ld i) % 2305843009213688669)) = S at *
        generalize evN X (prF M k k (fOf lc)) = Z at *
        obtain ⟨T, hT⟩ : ∃ T, (X + M) % 2305843009213688669 = T := ⟨_, rfl⟩
        have lT : T < 2305843009213688669 := by rw [← hT]; exact Nat.mod_lt _ (by decide)
        rw [hT] at vR
        have k1 := fun w => ladd A B lA lB w
        have k2 := fun w => ladd X M hxl hml w
        have k3 := fun w => lmul A T lA lT w
        simp only [← vS] at k1
        simp only [hT] at k2
        simp only [← vR] at k3
        have kR2' : ∀ W : World, IB W gr (prF M k k (fOf lc)) → Calls Try.prog 23 #[.slice (some ⟨gr, 0, none⟩) (k + 1) (k + 1), .int .i64 (Y : Int)] W fun e w' => e = .returned (.tuple #[.int .i64 0, .int .i64 0]) ∧ Below W.heap.size W w' := kR2
        clear kR2 vS vR vZ hT hPb hRb lA lB lT
        go_wp2_with (first
          | (go_at_call 23; with_reducible refine (kP _ HST.out.p).mono ?_; rintro e w4 ⟨rfl, hb⟩; have ST := HST.out.keep hb; clear HST hb; have HST := Lib.hid ST; clear ST)
          | (go_at_call 23; with_reducible refine (kQ' _ HST.out.q).mono ?_; rintro e w4 ⟨rfl, hb⟩; have ST := HST.out.keep hb; clear HST hb; have HST := Lib.hid ST; clear ST)
          | (go_at_call 23; with_reducible refine (kS _ HST.out.s).mono ?_; rintro e w4 ⟨rfl, hb⟩; have ST := HST.out.keep hb; clear HST hb; have HST := Lib.hid ST; clear ST)
          | (go_at_call 23; with_reducible refine (kR _ HST.out.r).mono ?_; rintro e w4 ⟨rfl, hb⟩; have ST := HST.out.keep hb; clear HST hb; have HST := Lib.hid ST; clear ST)
          | (go_at_call 23; with_reducible refine (kR2' _ HST.out.r).mono ?_; rintro e w4 ⟨rfl, hb⟩; have ST := HST.out.keep hb; clear HST hb; have HST := Lib.hid ST; clear ST)
          | (go_at_call 26; with_reducible refine (k1 _).mono ?_; rintro e w4 ⟨rfl, hb⟩; have ST := HST.out.keep hb; clear HST hb; have HST := Lib.hid ST; clear ST)
          | (go_at_call 26; with_reducible refine (k2 _).mono ?_; rintro e w4 ⟨rfl, hb⟩; have ST := HST.out.keep hb; clear HST hb; have HST := Lib.hid ST; clear ST)
          | (go_at_call 27; with_reducible refine (k3 _).mono ?_; rintro e w4 ⟨rfl, hb⟩; have ST := HST.out.keep hb; clear HST hb; have HST := Lib.hid ST; clear ST))
        go_ret
        exact ⟨rfl, HST.out.b⟩
end Go.Proofs.Ytpoclogglenhnaa
