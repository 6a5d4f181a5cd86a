/-
  Package vector: the iterator over the pairs of two vectors.
-/
import Derived.Test.YtfdfaajjlangjaaMm
import Derived.Test.YtfdfaajjlangjaaCbk
import Derived.RangeFuncNested
import Derived.RangeFuncBound
import Derived.RangeFuncCalls
import Derived.RangeFuncLeaves
import Derived.Shelf.Abstract
import Derived.Shelf.RegionOpen
import Derived.OwnWalkIn
import Derived.TacticsInMore
import Derived.LoopNIn
import Derived.LoopIn
import Derived.Laws.EntriesVeiled
namespace Go.Proofs.Ytfdfaajjlangjaa
open Go.RowKit Go.Shelf
set_option linter.unusedVariables false
set_option linter.unusedSimpArgs false
attribute [local go_sem] Oper.semAt_some

theorem pairs_any (a : Option Addr) (n cap : Nat) (a2 : Option Addr) (n2 cap2 : Nat) (w : World) :
    Calls Try.prog 37 #[.slice a n cap, .slice a2 n2 cap2] w fun e w' => e = .returned (.func (.func 40) #[] #[.pointer (some ⟨w.heap.size, 0, none⟩), .pointer (some ⟨w.heap.size + 1, 0, none⟩)]) ∧ w' = (w.alloc (.cells #[.slice a n cap] 22)).alloc (.cells #[.slice a2 n2 cap2] 22) := by
  go_enter Try.func37, Try.ntmps37
  go_wp2_with fail
  go_ret
  exact ⟨rfl, rfl⟩

/-- What is yielded for a device. -/
def prE (l m : List Dt) (k : Int) : Array Value := #[.int .i64 k, .agg #[.int .i64 (atV l k), .int .i64 (atV m k)]]
def lenS : Value → Nat
  | .slice _ n _ => n
  | _ => 0
theorem grownBy_of_below {w w' : World} (h : Below w.heap.size w w') : w.grownBy w' none := ⟨h.os, h.tape, h.output, h.size, fun k hk _ => h.block k hk⟩
/-- The rest of a vector, as the iterator holds it. -/
structure RsV (B : Nat) (w : World) (v : Value) (l : List Dt) : Prop where
  form : ∃ a cap, v = .slice a l.length cap ∧ l.length ≤ cap ∧ RdDt B w a l
theorem RsV.drew {B : Nat} {w : World} {v : Value} {l : List Dt} (h : RsV B w v l) : RsV B w.drew v l := by
  obtain ⟨a, cap, e, hc, hr⟩ := h.form
  exact ⟨a, cap, e, hc, hr.below (Below.refl _ _).drew⟩
theorem RsV.below {B : Nat} {w w' : World} {v : Value} {l : List Dt} (h : RsV B w v l) (hb : Below B w w') : RsV B w' v l := by
  obtain ⟨a, cap, e, hc, hr⟩ := h.form
  exact ⟨a, cap, e, hc, hr.below hb⟩
theorem RsV.len {B : Nat} {w : World} {v : Value} {l : List Dt} (h : RsV B w v l) : lenS v = l.length := by
  obtain ⟨a, cap, rfl, _⟩ := h.form
  rfl
theorem RsV.tail {B : Nat} {w : World} {a : Option Addr} {cap : Nat} {d : Dt} {l : List Dt} (hc : (d :: l).length ≤ cap) (h : RdDt B w a (d :: l)) : RsV B w (tailDt a (d :: l).length cap 1) l :=
  ⟨_, _, by unfold tailDt; rfl, by simp only [List.length_cons] at hc ⊢; omega, by simpa using h.drop hc 1⟩

set_option maxRecDepth 100000 in
set_option maxHeartbeats 4000000 in
theorem pairs1_stops (B Ba Bb : Nat) (a : Option Addr) (cap : Nat) (l : List Dt) (a2 : Option Addr) (cap2 : Nat) (m : List Dt) (h1 : okV l) (h2 : okV m) (w : World)
    (hca : w.cell? ⟨Ba, 0, none⟩ = some (.slice a l.length cap)) (hcb : w.cell? ⟨Bb, 0, none⟩ = some (.slice a2 m.length cap2)) (hla : Ba < w.heap.size) (hlb : Bb < w.heap.size) (hB : B ≤ w.heap.size)
    (hl : RdDt B w a l) (hm : RdDt B w a2 m) (hp : l.length ≤ cap) (hp2 : m.length ≤ cap2) :
    SeqStopsK Fence.wide 4 Try.prog 40 #[.pointer (some ⟨Ba, 0, none⟩), .pointer (some ⟨Bb, 0, none⟩)] (prE l m) (Below B) (fun ys => ys = dvV l m) (fun pre => ∃ r, pre ++ r = dvV l m) (dvV l m).length w := by
  intro l' J Jx w1 hW hJ _ hY h0
  have HCA : Hid (w1.cell? ⟨Ba, 0, none⟩ = some (.slice a l.length cap)) := Lib.hid ((hW.cell (p := ⟨Ba, 0, none⟩) hla).trans hca)
  have HCB : Hid (w1.cell? ⟨Bb, 0, none⟩ = some (.slice a2 m.length cap2)) := Lib.hid ((hW.cell (p := ⟨Bb, 0, none⟩) hlb).trans hcb)
  have HBW : Hid (B ≤ w1.heap.size) := Lib.hid (Nat.le_trans hB hW.size)
  have HRA : Hid (RsV B w1 (.slice a l.length cap) l) := Lib.hid ⟨_, _, rfl, hp, hl.below (hW.mono hB)⟩
  have HRB : Hid (RsV B w1 (.slice a2 m.length cap2) m) := Lib.hid ⟨_, _, rfl, hp2, hm.below (hW.mono hB)⟩
  have HP : Hid (Prs l m l m []) := Lib.hid (Prs.start h1 h2)
  have HJ : Hid (∀ pre (W1 W2 : World), J pre W1 → Below W1.heap.size W1 W2 → J pre W2) := Lib.hid (fun pre W1 W2 h hb => hJ pre W1 W2 none h (grownBy_of_below hb) (fun r e => by cases e))
  have HY := Lib.hid hY
  have H0 := Lib.hid h0
  obtain ⟨va, hva⟩ : ∃ va, va = Value.slice a l.length cap := ⟨_, rfl⟩
  obtain ⟨vb, hvb⟩ : ∃ vb, vb = Value.slice a2 m.length cap2 := ⟨_, rfl⟩
  rw [← hva] at HCA HRA
  rw [← hvb] at HCB HRB
  clear hca hcb hla hlb hB hl hm hp hp2 h1 h2 hJ hY h0 hW hva hvb
  have ca := HCA.out
  have cb := HCB.out
  refine callsIn_of_wp Try.func40 rfl trivial ?_ rfl
  simp only [Try.ntmps40, List.size_toArray, List.length_cons, List.length_nil, Nat.reduceAdd, Nat.reduceSub, Array.replicate_succ, Array.replicate_zero, List.push_toArray, List.append_toArray, List.nil_append, List.cons_append]
  gi_wp2
  --W
  rename_i K0 hK0
  refine wpIn_wide.2 ?_
  refine region_writes [8, 9, 4, 5] (fun f W => f 4 = va ∧ f 5 = vb ∧ W = w1.drew) ?_ ?_
  rotate_left
  · clear hK0 K0
    have HE : Hid (Below w1.heap.size w1 w1.drew) := Lib.hid ((Below.refl _ _).drew)
    have HSB : Hid (∀ W, W = w1.drew → W.cell? ⟨Ba, 0, none⟩ = some va ∧ W.cell? ⟨Bb, 0, none⟩ = some vb) := Lib.hid (fun W hW => by rw [hW]; exact ⟨HCA.out, HCB.out⟩)
    refine wp_region_held_drew (S := fun W => W.cell? ⟨Ba, 0, none⟩ = some va ∧ W.cell? ⟨Bb, 0, none⟩ = some vb) (by kernel_rfl) (HSB.out _ rfl) (fun hHeld => ?_)
    refine wpAnyH_take (i := 0) (v := va) rfl (by kernel_rfl) (by kernel_rfl) (by kernel_rfl) (fun _ _ _ h => nomatch h.1) (Or.inl ⟨by rfl, fun w hw => by obtain ⟨h1, h2⟩ := hw; go_simp⟩) hHeld ?_
    simp only [Act.put, List.getElem_toArray, List.getElem_cons_zero, List.getElem_cons_succ, List.setIfInBounds_toArray, List.set_cons_zero, List.set_cons_succ]
    refine wpAnyH_take (i := 1) (v := vb) rfl (by kernel_rfl) (by kernel_rfl) (by kernel_rfl) (fun _ _ _ h => nomatch h.1) (Or.inl ⟨by rfl, fun w hw => by obtain ⟨h1, h2⟩ := hw; go_simp⟩) hHeld ?_
    simp only [Act.put, List.getElem_toArray, List.getElem_cons_zero, List.getElem_cons_succ, List.setIfInBounds_toArray, List.set_cons_zero, List.set_cons_succ]
    refine wpAnyH_take (i := 2) (v := va) rfl (by kernel_rfl) (by kernel_rfl) (by kernel_rfl) (fun _ _ _ h => nomatch h.1) (Or.inl ⟨by rfl, fun w _ => by go_simp⟩) hHeld ?_
    simp only [Act.put, List.getElem_toArray, List.getElem_cons_zero, List.getElem_cons_succ, List.setIfInBounds_toArray, List.set_cons_zero, List.set_cons_succ]
    refine wpAnyH_take (i := 3) (v := vb) rfl (by kernel_rfl) (by kernel_rfl) (by kernel_rfl) (fun _ _ _ h => nomatch h.1) (Or.inl ⟨by rfl, fun w _ => by go_simp⟩) hHeld ?_
    simp only [Act.put, List.getElem_toArray, List.getElem_cons_zero, List.getElem_cons_succ, List.setIfInBounds_toArray, List.set_cons_zero, List.set_cons_succ]
    refine wpAnyH_done (by kernel_rfl) ?_ _
    exact ⟨rfl, writes_ex (by kernel_rfl) (⟨rfl, rfl, rfl⟩)⟩
  rintro f W ⟨e4, e5, rfl⟩
  refine hK0 _ _ ?_
  clear hK0 K0
  simp only [writes, List.foldl_cons, List.foldl_nil, Act.put, List.setIfInBounds_toArray, List.set_cons_zero, List.set_cons_succ]
  rw [e4, e5]
  clear e4 e5
  have HW : Hid (Below w1.heap.size w1 w1.drew) := Lib.hid (Below.refl _ _).drew
  gi_wp2
  gi_loopw [4, 5] (fun va vb wr => ∃ (r s : List Dt) (X : List Int), RsV B wr va r ∧ RsV B wr vb s ∧ Prs l m r s X ∧ J X wr ∧ B ≤ wr.heap.size) (fun va vb _ => lenS va + lenS vb)
  case atStart => exact ⟨l, m, [], HRA.out.drew, HRB.out.drew, HP.out, HJ.out _ _ _ H0.out HW.out, HBW.out⟩
  case round =>
    clear HRA HRB HP H0 HW HCA HCB HBW ca cb
    obtain ⟨r, s, X, hra, hrb, hp, hj, hb⟩ := hrel
    obtain ⟨a3, cap3, rfl, hc3, hr3⟩ := hra.form
    obtain ⟨a4, cap4, rfl, hc4, hr4⟩ := hrb.form
    have HR3 := Lib.hid hr3
    have HR4 := Lib.hid hr4
    have HC3 := Lib.hid hc3
    have HC4 := Lib.hid hc4
    have HP := Lib.hid hp
    have HX := Lib.hid hj
    have HB := Lib.hid hb
    clear hra hrb hp hj hb hr3 hr4 hc3 hc4
    by_cases hrn : r = []
    · cases s with
      | nil =>
        rw [hrn] at HP ⊢
        have HD := Lib.hid HP.out.done
        gi_wp2
        go_end0
        exact ⟨⟨_, rfl⟩, .inl ⟨X, HD.out, HX.out⟩⟩
      | cons z s =>
        have hlt : z.1 < hdV r := by rw [hrn]; exact (okV_dot HP.out.okr z (List.mem_cons_self ..)).2.1
        obtain ⟨hp2, q1, q2, hN⟩ := HP.out.right hlt
        have HP2 := Lib.hid hp2
        clear hp2
        have KA := Lib.hid (fun W (h : Below wr.heap.size wr W) => first_any a3 cap3 r W ((HR3.out.below (h.mono HB.out)).mono (Nat.le_trans HB.out h.size)))
        have TA : Hid (∀ W, Below wr.heap.size wr W → Calls Try.prog 42 #[.slice a3 r.length cap3, .int .i64 z.1] W fun e w' => e = .returned (.tuple #[.int .i64 0, .slice a3 r.length cap3]) ∧ Below W.heap.size W w') := Lib.hid (fun W h => by
          refine (taken_skip a3 cap3 r z.1 (by have := hlt; omega) W ((HR3.out.below (h.mono HB.out)).mono (Nat.le_trans HB.out h.size))).mono ?_
          rintro e w' ⟨rfl, rfl⟩
          exact ⟨rfl, Below.refl _ _⟩)
        have HTA : Hid (RsV B wr (.slice a3 r.length cap3) r) := Lib.hid ⟨_, _, rfl, HC3.out, HR3.out⟩
        have KB := Lib.hid (fun W (h : Below wr.heap.size wr W) => first_any a4 cap4 (z :: s) W ((HR4.out.below (h.mono HB.out)).mono (Nat.le_trans HB.out h.size)))
        have TB : Hid (∀ W, Below wr.heap.size wr W → Calls Try.prog 42 #[.slice a4 (z :: s).length cap4, .int .i64 z.1] W fun e w' => e = .returned (.tuple #[.int .i64 z.2, tailDt a4 (z :: s).length cap4 1]) ∧ Below W.heap.size W w') := Lib.hid (fun W h => by
          refine (taken_take a4 cap4 z s W ((HR4.out.below (h.mono HB.out)).mono (Nat.le_trans HB.out h.size))).mono ?_
          rintro e w' ⟨rfl, rfl⟩
          exact ⟨rfl, (Below.refl _ _).drew⟩)
        have HTB : Hid (RsV B wr (tailDt a4 (z :: s).length cap4 1) s) := Lib.hid (RsV.tail HC4.out HR4.out)
        obtain ⟨VB, hVB⟩ := exEqD (tailDt a4 (z :: s).length cap4 1)
        rw [hVB] at TB HTB
        clear hVB
        have f1 : r.length = 0 := by rw [hrn]; rfl
        have f2 : 0 < (z :: s).length := by simp only [List.length_cons]; omega
        have fm : (if hdV (z :: s) < hdV r then hdV (z :: s) else hdV r) = z.1 := by rw [if_pos (by have := hlt; simp only [hdV] at *; omega)]; rfl
        have HJ1 := Lib.hid (fun W5 (h : Below wr.heap.size wr W5) => HY.out X z.1 W5 (HJ.out _ _ _ HX.out h) hN)
        simp only [prE, q1, q2] at HJ1
        have HM : Hid (lenS (.slice a3 r.length cap3) + lenS VB < r.length + (z :: s).length) := Lib.hid (by
          have m1 := HTA.out.len
          have m2 := HTB.out.len
          rw [m1, m2]
          simp only [List.length_cons]
          omega)
        have HWR : Hid (Below wr.heap.size wr wr) := Lib.hid (Below.refl _ _)
        have HW1 : Hid (Below wr.heap.size wr (wr.alloc (.cells #[.int .i64 0, .int .i64 0] 55))) := Lib.hid ((Below.refl _ _).alloc (Nat.le_refl _) _)
        have HG1 := Lib.hid (CB.new wr 55 #[.int .i64 0, .int .i64 0])
        obtain ⟨n, hn⟩ := exEqD r.length
        obtain ⟨q, hq⟩ := exEqD (z :: s).length
        obtain ⟨k, hk⟩ := exEqD z.1
        simp only [hn, hq] at TA TB KA KB HTA HTB HM f1 f2 ⊢
        obtain ⟨x0, hx0⟩ := exEqD (hdV r)
        obtain ⟨y0, hy0⟩ := exEqD (hdV (z :: s))
        rw [hx0] at KA fm
        rw [hy0] at KB fm
        rw [hk] at TA TB HJ1 HP2 fm
        obtain ⟨n0, hn0⟩ := exEqD (0 : Int)
        obtain ⟨n1, hn1⟩ := exEqD (z.2 : Int)
        rw [hn1] at TB HJ1
        clear hrn hn hq hk hx0 hy0 hn0 hn1 q1 q2 hlt HR3 HR4 HC3 HC4 HP HX hN
        obtain rfl : n = 0 := f1
        gi_wp2_with (first
          | (refine ⟨trivial, ?_⟩; gi_at_call 41; refine (callsIn_wide.2 (KA.out _ HWR.out)).mono ?_; rintro e wo ⟨rfl, hwo⟩; rw [hwo]; clear hwo wo KA)
          | (refine ⟨trivial, ?_⟩; gi_at_call 41; refine (callsIn_wide.2 (KB.out _ HWR.out)).mono ?_; rintro e wo ⟨rfl, hwo⟩; rw [hwo]; clear hwo wo KB))
        refine ⟨trivial, ?_⟩
        refine (callsIn_wide.2 (TA.out _ HW1.out)).mono ?_
        rintro e w2 ⟨rfl, hb2⟩
        have HG2 := Lib.hid (HG1.out.call hb2)
        have HW2 := Lib.hid (HW1.out.trans (hb2.mono HW1.out.size))
        clear hb2 HG1 HW1
        have c0 := HG2.out.cell 0
        have f0 := HG2.out.frozen 0
        gi_wp2
        refine ⟨trivial, ?_⟩
        have HG3 := Lib.hid (HG2.out.set 0 (.int .i64 0))
        have HW3 := Lib.hid (HW2.out.setCell (p := ⟨wr.heap.size, 0, none⟩) (Nat.le_refl _) (.int .i64 0))
        refine (callsIn_wide.2 (TB.out _ HW3.out)).mono ?_
        rintro e w4 ⟨rfl, hb4⟩
        have HG4 : Hid (CB w4 wr.heap.size 55 #[.int .i64 0, .int .i64 0]) := Lib.hid (HG3.out.call hb4)
        have HW4 := Lib.hid (HW3.out.trans (hb4.mono HW3.out.size))
        clear hb4 HG3 HW3 HG2 HW2 c0 f0
        have c0 := HG4.out.cell 0
        have c1 := HG4.out.cell 1
        have f0 := HG4.out.frozen 1
        have HW5 := Lib.hid (HW4.out.setCell (p := ⟨wr.heap.size, 1, none⟩) (Nat.le_refl _) (.int .i64 n1))
        obtain ⟨fn, tmps, assign, body, hy, hRR⟩ := HJ1.out _ HW5.out
        clear TA TB HJ1 HG4 HW4
        gi_wp2
        refine hRR.mono ?_
        rintro e W6 (⟨rfl, hJ6, hk6⟩ | ⟨rfl, hJx6⟩)
        · have HJ6 := Lib.hid hJ6
          have HK6 := Lib.hid ((HW5.out.mono HB.out).trans hk6)
          clear hJ6 hk6 hRR hy HW5
          gi_wp2
          go_roundw
          case rel => exact ⟨_, _, _, HTA.out.below HK6.out, HTB.out.below HK6.out, HP2.out, HJ6.out, Nat.le_trans HB.out HK6.out.size⟩
          case measure => exact HM.out
        · have HJ6 := Lib.hid hJx6
          clear hJx6 hRR hy HW5
          gi_wp2
          refine bodyPost_ret (results_none rfl _ _ _) rfl ?_
          exact ⟨⟨_, rfl⟩, .inr ⟨_, ⟨_, HP2.out.dv⟩, HJ6.out⟩⟩
    · obtain ⟨d, x, hrc⟩ := List.exists_cons_of_ne_nil hrn
      clear hrn
      subst hrc
      by_cases hlt : d.1 < hdV s
      · skip
        obtain ⟨hp2, q1, q2, hN⟩ := HP.out.left hlt
        have HP2 := Lib.hid hp2
        clear hp2
        have KA := Lib.hid (fun W (h : Below wr.heap.size wr W) => first_any a3 cap3 (d :: x) W ((HR3.out.below (h.mono HB.out)).mono (Nat.le_trans HB.out h.size)))
        have TA : Hid (∀ W, Below wr.heap.size wr W → Calls Try.prog 42 #[.slice a3 (d :: x).length cap3, .int .i64 d.1] W fun e w' => e = .returned (.tuple #[.int .i64 d.2, tailDt a3 (d :: x).length cap3 1]) ∧ Below W.heap.size W w') := Lib.hid (fun W h => by
          refine (taken_take a3 cap3 d x W ((HR3.out.below (h.mono HB.out)).mono (Nat.le_trans HB.out h.size))).mono ?_
          rintro e w' ⟨rfl, rfl⟩
          exact ⟨rfl, (Below.refl _ _).drew⟩)
        have HTA : Hid (RsV B wr (tailDt a3 (d :: x).length cap3 1) x) := Lib.hid (RsV.tail HC3.out HR3.out)
        obtain ⟨VA, hVA⟩ := exEqD (tailDt a3 (d :: x).length cap3 1)
        rw [hVA] at TA HTA
        clear hVA
        have KB := Lib.hid (fun W (h : Below wr.heap.size wr W) => first_any a4 cap4 s W ((HR4.out.below (h.mono HB.out)).mono (Nat.le_trans HB.out h.size)))
        have TB : Hid (∀ W, Below wr.heap.size wr W → Calls Try.prog 42 #[.slice a4 s.length cap4, .int .i64 d.1] W fun e w' => e = .returned (.tuple #[.int .i64 0, .slice a4 s.length cap4]) ∧ Below W.heap.size W w') := Lib.hid (fun W h => by
          refine (taken_skip a4 cap4 s d.1 (by have := hlt; omega) W ((HR4.out.below (h.mono HB.out)).mono (Nat.le_trans HB.out h.size))).mono ?_
          rintro e w' ⟨rfl, rfl⟩
          exact ⟨rfl, Below.refl _ _⟩)
        have HTB : Hid (RsV B wr (.slice a4 s.length cap4) s) := Lib.hid ⟨_, _, rfl, HC4.out, HR4.out⟩
        have f1 : 0 < (d :: x).length := by simp only [List.length_cons]; omega
        have fm : (if hdV s < hdV (d :: x) then hdV s else hdV (d :: x)) = d.1 := by rw [if_neg (by simp only [hdV] at *; omega)]; rfl
        have HJ1 := Lib.hid (fun W5 (h : Below wr.heap.size wr W5) => HY.out X d.1 W5 (HJ.out _ _ _ HX.out h) hN)
        simp only [prE, q1, q2] at HJ1
        have HM : Hid (lenS VA + lenS (.slice a4 s.length cap4) < (d :: x).length + s.length) := Lib.hid (by
          have m1 := HTA.out.len
          have m2 := HTB.out.len
          rw [m1, m2]
          simp only [List.length_cons]
          omega)
        have HWR : Hid (Below wr.heap.size wr wr) := Lib.hid (Below.refl _ _)
        have HW1 : Hid (Below wr.heap.size wr (wr.alloc (.cells #[.int .i64 0, .int .i64 0] 55))) := Lib.hid ((Below.refl _ _).alloc (Nat.le_refl _) _)
        have HG1 := Lib.hid (CB.new wr 55 #[.int .i64 0, .int .i64 0])
        obtain ⟨n, hn⟩ := exEqD (d :: x).length
        obtain ⟨q, hq⟩ := exEqD s.length
        obtain ⟨k, hk⟩ := exEqD d.1
        simp only [hn, hq] at TA TB KA KB HTA HTB HM f1 ⊢
        obtain ⟨x0, hx0⟩ := exEqD (hdV (d :: x))
        obtain ⟨y0, hy0⟩ := exEqD (hdV s)
        rw [hx0] at KA fm
        rw [hy0] at KB fm
        rw [hk] at TA TB HJ1 HP2 fm
        obtain ⟨n0, hn0⟩ := exEqD (d.2 : Int)
        obtain ⟨n1, hn1⟩ := exEqD (0 : Int)
        rw [hn0] at TA HJ1
        clear hn hq hk hx0 hy0 hn0 hn1 q1 q2 hlt HR3 HR4 HC3 HC4 HP HX hN
        gi_wp2_with (first
          | (refine ⟨trivial, ?_⟩; gi_at_call 41; refine (callsIn_wide.2 (KA.out _ HWR.out)).mono ?_; rintro e wo ⟨rfl, hwo⟩; rw [hwo]; clear hwo wo KA)
          | (refine ⟨trivial, ?_⟩; gi_at_call 41; refine (callsIn_wide.2 (KB.out _ HWR.out)).mono ?_; rintro e wo ⟨rfl, hwo⟩; rw [hwo]; clear hwo wo KB))
        refine ⟨trivial, ?_⟩
        refine (callsIn_wide.2 (TA.out _ HW1.out)).mono ?_
        rintro e w2 ⟨rfl, hb2⟩
        have HG2 := Lib.hid (HG1.out.call hb2)
        have HW2 := Lib.hid (HW1.out.trans (hb2.mono HW1.out.size))
        clear hb2 HG1 HW1
        have c0 := HG2.out.cell 0
        have f0 := HG2.out.frozen 0
        gi_wp2
        refine ⟨trivial, ?_⟩
        have HG3 := Lib.hid (HG2.out.set 0 (.int .i64 n0))
        have HW3 := Lib.hid (HW2.out.setCell (p := ⟨wr.heap.size, 0, none⟩) (Nat.le_refl _) (.int .i64 n0))
        refine (callsIn_wide.2 (TB.out _ HW3.out)).mono ?_
        rintro e w4 ⟨rfl, hb4⟩
        have HG4 : Hid (CB w4 wr.heap.size 55 #[.int .i64 n0, .int .i64 0]) := Lib.hid (HG3.out.call hb4)
        have HW4 := Lib.hid (HW3.out.trans (hb4.mono HW3.out.size))
        clear hb4 HG3 HW3 HG2 HW2 c0 f0
        have c0 := HG4.out.cell 0
        have c1 := HG4.out.cell 1
        have f0 := HG4.out.frozen 1
        have HW5 := Lib.hid (HW4.out.setCell (p := ⟨wr.heap.size, 1, none⟩) (Nat.le_refl _) (.int .i64 0))
        obtain ⟨fn, tmps, assign, body, hy, hRR⟩ := HJ1.out _ HW5.out
        clear TA TB HJ1 HG4 HW4
        gi_wp2
        refine hRR.mono ?_
        rintro e W6 (⟨rfl, hJ6, hk6⟩ | ⟨rfl, hJx6⟩)
        · have HJ6 := Lib.hid hJ6
          have HK6 := Lib.hid ((HW5.out.mono HB.out).trans hk6)
          clear hJ6 hk6 hRR hy HW5
          gi_wp2
          go_roundw
          case rel => exact ⟨_, _, _, HTA.out.below HK6.out, HTB.out.below HK6.out, HP2.out, HJ6.out, Nat.le_trans HB.out HK6.out.size⟩
          case measure => exact HM.out
        · have HJ6 := Lib.hid hJx6
          clear hJx6 hRR hy HW5
          gi_wp2
          refine bodyPost_ret (results_none rfl _ _ _) rfl ?_
          exact ⟨⟨_, rfl⟩, .inr ⟨_, ⟨_, HP2.out.dv⟩, HJ6.out⟩⟩
      · cases s with
        | nil => exact absurd (okV_dot HP.out.okl d (List.mem_cons_self ..)).2.1 hlt
        | cons z s =>
          by_cases heq : d.1 = z.1
          · skip
            have hke := heq
            obtain ⟨hp2, q1, q2, hN⟩ := HP.out.both heq
            have HP2 := Lib.hid hp2
            clear hp2
            have KA := Lib.hid (fun W (h : Below wr.heap.size wr W) => first_any a3 cap3 (d :: x) W ((HR3.out.below (h.mono HB.out)).mono (Nat.le_trans HB.out h.size)))
            have TA : Hid (∀ W, Below wr.heap.size wr W → Calls Try.prog 42 #[.slice a3 (d :: x).length cap3, .int .i64 d.1] W fun e w' => e = .returned (.tuple #[.int .i64 d.2, tailDt a3 (d :: x).length cap3 1]) ∧ Below W.heap.size W w') := Lib.hid (fun W h => by
              refine (taken_take a3 cap3 d x W ((HR3.out.below (h.mono HB.out)).mono (Nat.le_trans HB.out h.size))).mono ?_
              rintro e w' ⟨rfl, rfl⟩
              exact ⟨rfl, (Below.refl _ _).drew⟩)
            have HTA : Hid (RsV B wr (tailDt a3 (d :: x).length cap3 1) x) := Lib.hid (RsV.tail HC3.out HR3.out)
            obtain ⟨VA, hVA⟩ := exEqD (tailDt a3 (d :: x).length cap3 1)
            rw [hVA] at TA HTA
            clear hVA
            have KB := Lib.hid (fun W (h : Below wr.heap.size wr W) => first_any a4 cap4 (z :: s) W ((HR4.out.below (h.mono HB.out)).mono (Nat.le_trans HB.out h.size)))
            have TB : Hid (∀ W, Below wr.heap.size wr W → Calls Try.prog 42 #[.slice a4 (z :: s).length cap4, .int .i64 d.1] W fun e w' => e = .returned (.tuple #[.int .i64 z.2, tailDt a4 (z :: s).length cap4 1]) ∧ Below W.heap.size W w') := Lib.hid (fun W h => by
              rw [hke]
              refine (taken_take a4 cap4 z s W ((HR4.out.below (h.mono HB.out)).mono (Nat.le_trans HB.out h.size))).mono ?_
              rintro e w' ⟨rfl, rfl⟩
              exact ⟨rfl, (Below.refl _ _).drew⟩)
            have HTB : Hid (RsV B wr (tailDt a4 (z :: s).length cap4 1) s) := Lib.hid (RsV.tail HC4.out HR4.out)
            obtain ⟨VB, hVB⟩ := exEqD (tailDt a4 (z :: s).length cap4 1)
            rw [hVB] at TB HTB
            clear hVB
            have f1 : 0 < (d :: x).length := by simp only [List.length_cons]; omega
            have fm : (if hdV (z :: s) < hdV (d :: x) then hdV (z :: s) else hdV (d :: x)) = d.1 := by rw [if_neg (by simp only [hdV] at *; omega)]; rfl
            have HJ1 := Lib.hid (fun W5 (h : Below wr.heap.size wr W5) => HY.out X d.1 W5 (HJ.out _ _ _ HX.out h) hN)
            simp only [prE, q1, q2] at HJ1
            have HM : Hid (lenS VA + lenS VB < (d :: x).length + (z :: s).length) := Lib.hid (by
              have m1 := HTA.out.len
              have m2 := HTB.out.len
              rw [m1, m2]
              simp only [List.length_cons]
              omega)
            have HWR : Hid (Below wr.heap.size wr wr) := Lib.hid (Below.refl _ _)
            have HW1 : Hid (Below wr.heap.size wr (wr.alloc (.cells #[.int .i64 0, .int .i64 0] 55))) := Lib.hid ((Below.refl _ _).alloc (Nat.le_refl _) _)
            have HG1 := Lib.hid (CB.new wr 55 #[.int .i64 0, .int .i64 0])
            obtain ⟨n, hn⟩ := exEqD (d :: x).length
            obtain ⟨q, hq⟩ := exEqD (z :: s).length
            obtain ⟨k, hk⟩ := exEqD d.1
            simp only [hn, hq] at TA TB KA KB HTA HTB HM f1 ⊢
            obtain ⟨x0, hx0⟩ := exEqD (hdV (d :: x))
            obtain ⟨y0, hy0⟩ := exEqD (hdV (z :: s))
            rw [hx0] at KA fm
            rw [hy0] at KB fm
            rw [hk] at TA TB HJ1 HP2 fm
            obtain ⟨n0, hn0⟩ := exEqD (d.2 : Int)
            obtain ⟨n1, hn1⟩ := exEqD (z.2 : Int)
            rw [hn0] at TA HJ1
            rw [hn1] at TB HJ1
            clear heq hke hn hq hk hx0 hy0 hn0 hn1 q1 q2 hlt HR3 HR4 HC3 HC4 HP HX hN
            gi_wp2_with (first
              | (refine ⟨trivial, ?_⟩; gi_at_call 41; refine (callsIn_wide.2 (KA.out _ HWR.out)).mono ?_; rintro e wo ⟨rfl, hwo⟩; rw [hwo]; clear hwo wo KA)
              | (refine ⟨trivial, ?_⟩; gi_at_call 41; refine (callsIn_wide.2 (KB.out _ HWR.out)).mono ?_; rintro e wo ⟨rfl, hwo⟩; rw [hwo]; clear hwo wo KB))
            refine ⟨trivial, ?_⟩
            refine (callsIn_wide.2 (TA.out _ HW1.out)).mono ?_
            rintro e w2 ⟨rfl, hb2⟩
            have HG2 := Lib.hid (HG1.out.call hb2)
            have HW2 := Lib.hid (HW1.out.trans (hb2.mono HW1.out.size))
            clear hb2 HG1 HW1
            have c0 := HG2.out.cell 0
            have f0 := HG2.out.frozen 0
            gi_wp2
            refine ⟨trivial, ?_⟩
            have HG3 := Lib.hid (HG2.out.set 0 (.int .i64 n0))
            have HW3 := Lib.hid (HW2.out.setCell (p := ⟨wr.heap.size, 0, none⟩) (Nat.le_refl _) (.int .i64 n0))
            refine (callsIn_wide.2 (TB.out _ HW3.out)).mono ?_
            rintro e w4 ⟨rfl, hb4⟩
            have HG4 : Hid (CB w4 wr.heap.size 55 #[.int .i64 n0, .int .i64 0]) := Lib.hid (HG3.out.call hb4)
            have HW4 := Lib.hid (HW3.out.trans (hb4.mono HW3.out.size))
            clear hb4 HG3 HW3 HG2 HW2 c0 f0
            have c0 := HG4.out.cell 0
            have c1 := HG4.out.cell 1
            have f0 := HG4.out.frozen 1
            have HW5 := Lib.hid (HW4.out.setCell (p := ⟨wr.heap.size, 1, none⟩) (Nat.le_refl _) (.int .i64 n1))
            obtain ⟨fn, tmps, assign, body, hy, hRR⟩ := HJ1.out _ HW5.out
            clear TA TB HJ1 HG4 HW4
            gi_wp2
            refine hRR.mono ?_
            rintro e W6 (⟨rfl, hJ6, hk6⟩ | ⟨rfl, hJx6⟩)
            · have HJ6 := Lib.hid hJ6
              have HK6 := Lib.hid ((HW5.out.mono HB.out).trans hk6)
              clear hJ6 hk6 hRR hy HW5
              gi_wp2
              go_roundw
              case rel => exact ⟨_, _, _, HTA.out.below HK6.out, HTB.out.below HK6.out, HP2.out, HJ6.out, Nat.le_trans HB.out HK6.out.size⟩
              case measure => exact HM.out
            · have HJ6 := Lib.hid hJx6
              clear hJx6 hRR hy HW5
              gi_wp2
              refine bodyPost_ret (results_none rfl _ _ _) rfl ?_
              exact ⟨⟨_, rfl⟩, .inr ⟨_, ⟨_, HP2.out.dv⟩, HJ6.out⟩⟩
          · replace hlt : z.1 < hdV (d :: x) := by simp only [hdV] at hlt ⊢; omega
            obtain ⟨hp2, q1, q2, hN⟩ := HP.out.right hlt
            have HP2 := Lib.hid hp2
            clear hp2
            have KA := Lib.hid (fun W (h : Below wr.heap.size wr W) => first_any a3 cap3 (d :: x) W ((HR3.out.below (h.mono HB.out)).mono (Nat.le_trans HB.out h.size)))
            have TA : Hid (∀ W, Below wr.heap.size wr W → Calls Try.prog 42 #[.slice a3 (d :: x).length cap3, .int .i64 z.1] W fun e w' => e = .returned (.tuple #[.int .i64 0, .slice a3 (d :: x).length cap3]) ∧ Below W.heap.size W w') := Lib.hid (fun W h => by
              refine (taken_skip a3 cap3 (d :: x) z.1 (by have := hlt; omega) W ((HR3.out.below (h.mono HB.out)).mono (Nat.le_trans HB.out h.size))).mono ?_
              rintro e w' ⟨rfl, rfl⟩
              exact ⟨rfl, Below.refl _ _⟩)
            have HTA : Hid (RsV B wr (.slice a3 (d :: x).length cap3) (d :: x)) := Lib.hid ⟨_, _, rfl, HC3.out, HR3.out⟩
            have KB := Lib.hid (fun W (h : Below wr.heap.size wr W) => first_any a4 cap4 (z :: s) W ((HR4.out.below (h.mono HB.out)).mono (Nat.le_trans HB.out h.size)))
            have TB : Hid (∀ W, Below wr.heap.size wr W → Calls Try.prog 42 #[.slice a4 (z :: s).length cap4, .int .i64 z.1] W fun e w' => e = .returned (.tuple #[.int .i64 z.2, tailDt a4 (z :: s).length cap4 1]) ∧ Below W.heap.size W w') := Lib.hid (fun W h => by
              refine (taken_take a4 cap4 z s W ((HR4.out.below (h.mono HB.out)).mono (Nat.le_trans HB.out h.size))).mono ?_
              rintro e w' ⟨rfl, rfl⟩
              exact ⟨rfl, (Below.refl _ _).drew⟩)
            have HTB : Hid (RsV B wr (tailDt a4 (z :: s).length cap4 1) s) := Lib.hid (RsV.tail HC4.out HR4.out)
            obtain ⟨VB, hVB⟩ := exEqD (tailDt a4 (z :: s).length cap4 1)
            rw [hVB] at TB HTB
            clear hVB
            have f1 : 0 < (d :: x).length := by simp only [List.length_cons]; omega
            have fm : (if hdV (z :: s) < hdV (d :: x) then hdV (z :: s) else hdV (d :: x)) = z.1 := by rw [if_pos (by simp only [hdV] at *; omega)]; rfl
            have HJ1 := Lib.hid (fun W5 (h : Below wr.heap.size wr W5) => HY.out X z.1 W5 (HJ.out _ _ _ HX.out h) hN)
            simp only [prE, q1, q2] at HJ1
            have HM : Hid (lenS (.slice a3 (d :: x).length cap3) + lenS VB < (d :: x).length + (z :: s).length) := Lib.hid (by
              have m1 := HTA.out.len
              have m2 := HTB.out.len
              rw [m1, m2]
              simp only [List.length_cons]
              omega)
            have HWR : Hid (Below wr.heap.size wr wr) := Lib.hid (Below.refl _ _)
            have HW1 : Hid (Below wr.heap.size wr (wr.alloc (.cells #[.int .i64 0, .int .i64 0] 55))) := Lib.hid ((Below.refl _ _).alloc (Nat.le_refl _) _)
            have HG1 := Lib.hid (CB.new wr 55 #[.int .i64 0, .int .i64 0])
            obtain ⟨n, hn⟩ := exEqD (d :: x).length
            obtain ⟨q, hq⟩ := exEqD (z :: s).length
            obtain ⟨k, hk⟩ := exEqD z.1
            simp only [hn, hq] at TA TB KA KB HTA HTB HM f1 ⊢
            obtain ⟨x0, hx0⟩ := exEqD (hdV (d :: x))
            obtain ⟨y0, hy0⟩ := exEqD (hdV (z :: s))
            rw [hx0] at KA fm
            rw [hy0] at KB fm
            rw [hk] at TA TB HJ1 HP2 fm
            obtain ⟨n0, hn0⟩ := exEqD (0 : Int)
            obtain ⟨n1, hn1⟩ := exEqD (z.2 : Int)
            rw [hn1] at TB HJ1
            clear heq hn hq hk hx0 hy0 hn0 hn1 q1 q2 hlt HR3 HR4 HC3 HC4 HP HX hN
            gi_wp2_with (first
              | (refine ⟨trivial, ?_⟩; gi_at_call 41; refine (callsIn_wide.2 (KA.out _ HWR.out)).mono ?_; rintro e wo ⟨rfl, hwo⟩; rw [hwo]; clear hwo wo KA)
              | (refine ⟨trivial, ?_⟩; gi_at_call 41; refine (callsIn_wide.2 (KB.out _ HWR.out)).mono ?_; rintro e wo ⟨rfl, hwo⟩; rw [hwo]; clear hwo wo KB))
            refine ⟨trivial, ?_⟩
            refine (callsIn_wide.2 (TA.out _ HW1.out)).mono ?_
            rintro e w2 ⟨rfl, hb2⟩
            have HG2 := Lib.hid (HG1.out.call hb2)
            have HW2 := Lib.hid (HW1.out.trans (hb2.mono HW1.out.size))
            clear hb2 HG1 HW1
            have c0 := HG2.out.cell 0
            have f0 := HG2.out.frozen 0
            gi_wp2
            refine ⟨trivial, ?_⟩
            have HG3 := Lib.hid (HG2.out.set 0 (.int .i64 0))
            have HW3 := Lib.hid (HW2.out.setCell (p := ⟨wr.heap.size, 0, none⟩) (Nat.le_refl _) (.int .i64 0))
            refine (callsIn_wide.2 (TB.out _ HW3.out)).mono ?_
            rintro e w4 ⟨rfl, hb4⟩
            have HG4 : Hid (CB w4 wr.heap.size 55 #[.int .i64 0, .int .i64 0]) := Lib.hid (HG3.out.call hb4)
            have HW4 := Lib.hid (HW3.out.trans (hb4.mono HW3.out.size))
            clear hb4 HG3 HW3 HG2 HW2 c0 f0
            have c0 := HG4.out.cell 0
            have c1 := HG4.out.cell 1
            have f0 := HG4.out.frozen 1
            have HW5 := Lib.hid (HW4.out.setCell (p := ⟨wr.heap.size, 1, none⟩) (Nat.le_refl _) (.int .i64 n1))
            obtain ⟨fn, tmps, assign, body, hy, hRR⟩ := HJ1.out _ HW5.out
            clear TA TB HJ1 HG4 HW4
            gi_wp2
            refine hRR.mono ?_
            rintro e W6 (⟨rfl, hJ6, hk6⟩ | ⟨rfl, hJx6⟩)
            · have HJ6 := Lib.hid hJ6
              have HK6 := Lib.hid ((HW5.out.mono HB.out).trans hk6)
              clear hJ6 hk6 hRR hy HW5
              gi_wp2
              go_roundw
              case rel => exact ⟨_, _, _, HTA.out.below HK6.out, HTB.out.below HK6.out, HP2.out, HJ6.out, Nat.le_trans HB.out HK6.out.size⟩
              case measure => exact HM.out
            · have HJ6 := Lib.hid hJx6
              clear hJx6 hRR hy HW5
              gi_wp2
              refine bodyPost_ret (results_none rfl _ _ _) rfl ?_
              exact ⟨⟨_, rfl⟩, .inr ⟨_, ⟨_, HP2.out.dv⟩, HJ6.out⟩⟩
end Go.Proofs.Ytfdfaajjlangjaa
