/-
  A copy into a row that is known whole; the schedule of a block's words.
-/
import Derived.Test.YtmeoicfeiamkmaaDoorWrd
import Derived.IntWalk
namespace Go.Proofs.YtmeoicfeiamkmaaDoor
open Go.RowKit

/-- copy(row[off:..], src): the row behind it; nothing else has turned. -/
theorem wp_copyRow {P : Program} {w : World} {o : Oper} {a : Act} {K : Act → World → Prop} {Q : Exit → Act → World → Prop} (d s : Operand) (dT sT : TypeId)
    (ho : o.op = .call { callee := .builtin .copy, args := #[d, s], argTypes := #[dT, sT] }) (elem : TypeId) (hu : P.underlying dT = some (.slice elem)) (hsz : (P.info? elem).map (·.size) = some 1)
    (dp sp : Option Addr) (dLen dCap sLen sCap : Nat) (hd : a.eval d = .slice dp dLen dCap) (hs : a.eval s = .slice sp sLen sCap)
    (g off : Nat) (cur : Array Value) (t : TypeId) (hg : w.heap[g]? = some (.cells cur t (0, 0))) (cs : List Value) (hn : cs.length = Nat.min sLen dLen)
    (hpos : 0 < cs.length → dp = some ⟨g, off, none⟩ ∧ ∃ ad, sp = some ad ∧ ∀ j v, cs[j]? = some v → w.cell? (ad.add j) = some v)
    (hfit : off + cs.length ≤ cur.size) (h1 : ∀ v ∈ cs, v.oneCell' = true)
    (h : ∀ w', w'.heap[g]? = some (.cells (splice cur.toList off cs).toArray t (0, 0)) → w.grownBy w' (some g) → K (a.put o.dst (goInt cs.length)) w') : o.wp P a w K Q := by
  by_cases h0 : cs.length = 0
  · obtain rfl : cs = [] := List.eq_nil_of_length_eq_zero h0
    have hrun := run_copy_none (P := P) w dT sT o.type elem dp sp dLen dCap sLen sCap hu hsz (by simpa using hn.symm)
    unfold Oper.wp
    simp [execOp, ho, resolve, invoke, builtin, hd, hs, hrun, Result.andThen]
    exact h w (by simpa [splice] using hg) ⟨rfl, rfl, rfl, Nat.le_refl _, fun _ _ _ => rfl⟩
  · obtain ⟨rfl, ad, rfl, hsrc⟩ := hpos (by omega)
    have hrun := run_copy_row (P := P) w dT sT o.type elem g off dLen dCap ad sLen sCap cur t cs hu hsz hg hn hsrc hfit h1
    unfold Oper.wp
    simp [execOp, ho, resolve, invoke, builtin, hd, hs, hrun, Result.andThen]
    exact h _ (by simpa [splice] using setRow_heap w g _ _ t _ hg) ⟨rfl, rfl, rfl, by simp [World.setRow], fun k hk hn => setRow_other w g k _ (fun e => hn (by rw [e]))⟩
theorem wpList_copyRow {P : Program} {w : World} {ops : Array Oper} {rest : List Oper} {o : Oper} {a : Act} {Q : Exit → Act → World → Prop} (hgd : o.guard = none) (d s : Operand) (dT sT : TypeId)
    (ho : o.op = .call { callee := .builtin .copy, args := #[d, s], argTypes := #[dT, sT] }) (elem : TypeId) (hu : P.underlying dT = some (.slice elem)) (hsz : (P.info? elem).map (·.size) = some 1)
    (dp sp : Option Addr) (dLen dCap sLen sCap : Nat) (hd : a.eval d = .slice dp dLen dCap) (hs : a.eval s = .slice sp sLen sCap)
    (g off : Nat) (cur : Array Value) (t : TypeId) (hg : w.heap[g]? = some (.cells cur t (0, 0))) (cs : List Value) (hn : cs.length = Nat.min sLen dLen)
    (hpos : 0 < cs.length → dp = some ⟨g, off, none⟩ ∧ ∃ ad, sp = some ad ∧ ∀ j v, cs[j]? = some v → w.cell? (ad.add j) = some v)
    (hfit : off + cs.length ≤ cur.size) (h1 : ∀ v ∈ cs, v.oneCell' = true)
    (h : ∀ w', w'.heap[g]? = some (.cells (splice cur.toList off cs).toArray t (0, 0)) → w.grownBy w' (some g) → wpList P ops Q rest (a.put o.dst (goInt cs.length)) w') :
    wpList P ops Q (o :: rest) a w :=
  wpList_plain hgd fun _ hK => wp_copyRow d s dT sT ho elem hu hsz dp sp dLen dCap sLen sCap hd hs g off cur t hg cs hn hpos hfit h1 fun w' h2 h3 => hK _ _ (h w' h2 h3)

def sig0 (x : Nat) : Nat := uxor (uxor (uror x 7) (uror x 18)) (ushr x 3)
def sig1 (y : Nat) : Nat := uxor (uxor (uror y 17) (uror y 19)) (ushr y 10)
/-- The next word. -/
def wnext (a x b y : Nat) : Nat := uadd (uadd (uadd a (sig0 x)) b) (sig1 y)
/-- The array of 64 words, when n of those behind the block's have been calculated. -/
def schN (l : List Nat) : Nat → List Nat
  | 0 => l ++ List.replicate 48 0
  | n + 1 => (schN l n).set (n + 16) (wnext ((schN l n).getD n 0) ((schN l n).getD (n + 1) 0) ((schN l n).getD (n + 9) 0) ((schN l n).getD (n + 14) 0))
def sched (l : List Nat) : List Nat := schN l 48
theorem schN_len (l : List Nat) (hl : l.length = 16) : ∀ n, (schN l n).length = 64
  | 0 => by simp [schN, hl]
  | n + 1 => by simp only [schN, List.length_set]; exact schN_len l hl n
theorem schN_at (l : List Nat) (k t : Nat) (h : t = k + 16) : schN l (k + 1) = (schN l k).set t (wnext ((schN l k).getD (t - 16) 0) ((schN l k).getD (t - 15) 0) ((schN l k).getD (t - 7) 0) ((schN l k).getD (t - 2) 0)) := by
  subst h; simp only [schN]; rfl
theorem WB.cellD {w : World} {g : Nat} {T : TypeId} {l : List Nat} (h : WB w g T l) (i : Nat) (hi : i < l.length) : w.cell? ⟨g, i, none⟩ = some (.int .u32 (l.getD i 0 : Nat)) := by
  rw [h.cell i hi]; simp [hi]

theorem below_dN {B : Nat} {w w1 : World} (h : Below B w w1) (n : Nat) : Below B w (w1.drewN n) := h.trans ⟨rfl, rfl, rfl, Nat.le_refl _, fun _ _ => rfl⟩
theorem u_add (a b : Nat) : IntKind.u32.wrap ((a : Int) + (b : Int)) = ((uadd a b : Nat) : Int) := by rw [wrap_u32n, w_add]
theorem w_shr3 (a : Nat) : (a : Int) / 8 = ((ushr a 3 : Nat) : Int) := w_shr a 3
theorem w_shr10 (a : Nat) : (a : Int) / 1024 = ((ushr a 10 : Nat) : Int) := w_shr a 10
theorem ror_still (x n : Nat) (i : Int) (hi : i = (n : Int)) (hn : 1 ≤ n) (hn2 : n ≤ 31) (w : World) :
    Calls Tryd.prog 48 #[.int .u32 x, .int .i64 i] w fun e w' => e = .returned (.int .u32 (uror x n)) ∧ w' = w :=
  (ror_any x n i hi hn hn2 w).mono fun _ _ h => ⟨h.1, h.2.symm⟩
theorem zeros64 (w : World) (T : TypeId) : w.alloc (.cells #[.int .u32 0, .int .u32 0, .int .u32 0, .int .u32 0, .int .u32 0, .int .u32 0, .int .u32 0, .int .u32 0, .int .u32 0, .int .u32 0, .int .u32 0, .int .u32 0, .int .u32 0, .int .u32 0, .int .u32 0, .int .u32 0, .int .u32 0, .int .u32 0, .int .u32 0, .int .u32 0, .int .u32 0, .int .u32 0, .int .u32 0, .int .u32 0, .int .u32 0, .int .u32 0, .int .u32 0, .int .u32 0, .int .u32 0, .int .u32 0, .int .u32 0, .int .u32 0, .int .u32 0, .int .u32 0, .int .u32 0, .int .u32 0, .int .u32 0, .int .u32 0, .int .u32 0, .int .u32 0, .int .u32 0, .int .u32 0, .int .u32 0, .int .u32 0, .int .u32 0, .int .u32 0, .int .u32 0, .int .u32 0, .int .u32 0, .int .u32 0, .int .u32 0, .int .u32 0, .int .u32 0, .int .u32 0, .int .u32 0, .int .u32 0, .int .u32 0, .int .u32 0, .int .u32 0, .int .u32 0, .int .u32 0, .int .u32 0, .int .u32 0, .int .u32 0] T) = w.alloc (.cells (wv (List.replicate 64 0)) T) := rfl
theorem grown_below {B R : Nat} {w0 w w1 : World} (hb : Below B w0 w) (h : w.grownBy w1 (some R)) (hR : B ≤ R) (hs : B ≤ w.heap.size) : Below B w0 w1 :=
  hb.trans ((Below.refl _ _).grown h hs fun k hk => by injection hk with hk; omega)
theorem splice_wv (l : List Nat) (n : Nat) : splice (wv (List.replicate (l.length + n) 0)).toList 0 (wv l).toList = (wv (l ++ List.replicate n 0)).toList := by
  simp [splice, wv]

set_option maxRecDepth 100000 in
set_option maxHeartbeats 800000 in
theorem schedule_any (l : List Nat) (hl : l.length = 16) (w : World) :
    Calls Tryd.prog 47 #[.agg (wv l)] w fun e w' => e = .returned (.agg (wv (sched l))) ∧ Below w.heap.size w w' := by
  have HL := Lib.hid hl
  clear hl
  go_enter Tryd.func47, Tryd.ntmps47
  go_wp2_with fail
  rw [zeros64]
  obtain ⟨Z, hZ⟩ : ∃ Z, Z = List.replicate 64 (0 : Nat) := ⟨_, rfl⟩
  rw [← hZ]
  obtain ⟨w2, hw2⟩ : ∃ w2, w2 = (w.alloc (.cells (wv l) 68)).alloc (.cells (wv Z) 75) := ⟨_, rfl⟩
  have hA : WB w2 w.heap.size 68 l := hw2 ▸ (WB.new w _ l).alloc _
  have hB : WB w2 (w.heap.size + 1) 75 Z := by have := WB.new (w.alloc (.cells (wv l) 68)) 75 Z; simpa [hw2] using this
  have hbl : Below w.heap.size w w2 := hw2 ▸ ((Below.refl _ _).alloc (Nat.le_refl _) _).alloc (by simp) _
  have hz : w.heap.size + 1 < w2.heap.size := by rw [hw2]; simp
  rw [← hw2]
  have HA := Lib.hid hA
  have HB := Lib.hid hB
  have HBL := Lib.hid hbl
  have HZ := Lib.hid hZ
  clear hw2 hA hB hbl hZ
  have hsz1 : (Tryd.prog.info? 51).map (·.size) = some 1 := by kernel_rfl
  go_still_tail 2, (by kernel_rfl)
  change wpList _ _ _ _ _ w2.drew
  go_wp2_with (refine wpList_copyRow rfl (.tmp 6) (.tmp 7) 81 81 rfl 51 Tryd.underlying81 hsz1 (some ⟨w.heap.size + 1, 0, none⟩) (some ⟨w.heap.size, 0, none⟩) 64 64 16 16 rfl rfl (w.heap.size + 1) 0 (wv Z) 75 HB.out (wv l).toList ?c1 ?c2 ?c3 ?c4 ?c5)
  case c1 => simp [wv, HL.out]
  case c2 =>
    intro _ j v hv
    rw [cell_of_row _ _ _ _ _ _ HA.out]
    exact hv
  case c3 => rw [HZ.out]; simp [wv, HL.out]
  case c4 => intro v hv; exact (Array.all_eq_true_iff_forall_mem.1 (wv_one l)) v (by simpa using hv)
  intro w3 h3 hg3
  have HB3 : Hid (WB w3 (w.heap.size + 1) 75 (schN l 0)) := by
    have e := splice_wv l 48
    rw [HL.out] at e
    show _ = _
    rw [h3, HZ.out, e]; rfl
  have HBL3 := Lib.hid (grown_below (HBL.out.drew) hg3 (Nat.le_succ _) (by show w.heap.size ≤ w2.heap.size; omega))
  clear h3 hg3
  go_wp2_with fail
  go_loopw [3] (fun i wr => ∃ k : Nat, k ≤ 48 ∧ i = .int .i64 ((k + 16 : Nat) : Int) ∧ WB wr (w.heap.size + 1) 75 (schN l k) ∧ Below w.heap.size w wr) (fun i _ => 64 - (intOf i).toNat)
  case atStart => exact ⟨0, by omega, rfl, HB3.out, HBL3.out⟩
  case round =>
    obtain ⟨k, hk, rfl, hw, hb⟩ := hrel
    have hlen := schN_len l HL.out k
    have HX := Lib.hid (schN_at l k (k + 16) rfl)
    by_cases hlt : k < 48
    · obtain ⟨t, ht⟩ : ∃ t, t = k + 16 := ⟨_, rfl⟩
      have c16 := hw.cellD (t - 16) (by omega)
      have c15 := hw.cellD (t - 15) (by omega)
      have c7 := hw.cellD (t - 7) (by omega)
      have c2 := hw.cellD (t - 2) (by omega)
      have ct := hw.cellD t (by omega)
      have cf := hw.frozen t
      rw [← ht] at HX ⊢
      generalize (schN l k).getD (t - 16) 0 = x16 at *
      generalize (schN l k).getD (t - 15) 0 = x15 at *
      generalize (schN l k).getD (t - 7) 0 = x7 at *
      generalize (schN l k).getD (t - 2) 0 = x2 at *
      generalize (schN l k).getD t 0 = xt at *
      have h16 : 16 ≤ t := by omega
      have h64 : t < 64 := by omega
      have HK := Lib.hid ht
      have HW := Lib.hid hw
      have HB' := Lib.hid hb
      clear hw hb hk hlt ht hlen
      go_wp2_with fail
      go_quiet (fail)
      go_wp2_with fail
      have d16 : (wr.drewN nq).cell? ⟨w.heap.size + 1, t - 16, none⟩ = some (.int .u32 (x16 : Int)) := c16
      have d7 : (wr.drewN nq).cell? ⟨w.heap.size + 1, t - 7, none⟩ = some (.int .u32 (x7 : Int)) := c7
      have dt : (wr.drewN nq).cell? ⟨w.heap.size + 1, t, none⟩ = some (.int .u32 (xt : Int)) := ct
      have df : (wr.drewN nq).frozen? ⟨w.heap.size + 1, t, none⟩ = false := cf
      have HW2 := Lib.hid (HW.out.drewN nq)
      have HB2 := Lib.hid (below_dN HB'.out nq)
      clear c16 c15 c7 c2 ct cf HW HB'
      generalize wr.drewN nq = wq at *
      have s16 : IntKind.i64.wrap ((t : Int) - 16) = (t : Int) - 16 := IntWalk.i64_in _ (by omega)
      have s7 : IntKind.i64.wrap ((t : Int) - 7) = (t : Int) - 7 := IntWalk.i64_in _ (by omega)
      have z16 : (0 : Int) ≤ (t : Int) - 16 := by omega
      have z7 : (0 : Int) ≤ (t : Int) - 7 := by omega
      have i16 : (16 : Int) ≤ (t : Int) := by omega
      have i7 : (7 : Int) ≤ (t : Int) := by omega
      have y16 : (t : Int) - 16 < 64 := by omega
      have y7 : (t : Int) - 7 < 64 := by omega
      have n16 : ((t : Int) - 16).toNat = t - 16 := by omega
      have n7 : ((t : Int) - 7).toNat = t - 7 := by omega
      have u1 := u_add
      have u2 := w_xor
      have u3 := w_shr3 x15
      have u4 := w_shr10 x2
      refine wp_region_still_tail 29 (by kernel_rfl) (by kernel_rfl) ?_
      simp only [List.take_succ_cons, List.take_zero, List.drop_succ_cons, List.drop_zero]
      iterate 6 still_step
      still_call (ror_still _ 7 _ rfl (by decide) (by decide) _)
      still_step
      still_call (ror_still _ 18 _ rfl (by decide) (by decide) _)
      iterate 11 still_step
      still_call (ror_still _ 17 _ rfl (by decide) (by decide) _)
      still_step
      still_call (ror_still _ 19 _ rfl (by decide) (by decide) _)
      iterate 6 still_step
      refine wpStill_nil ?_
      change wpList _ _ _ _ _ wq.drew
      go_wp2_with fail
      go_roundw
      case rel =>
        refine ⟨k + 1, by have := HK.out; omega, by rw [HK.out]; go_num, ?_, (HB2.out.drew).setCell (Nat.le_succ _) _⟩
        rw [HX.out]
        exact (HW2.out.drew).set_ t _
      case measure => simp [intOf]; omega
    · have HW := Lib.hid hw
      have HB := Lib.hid hb
      clear hw hb
      obtain rfl : k = 48 := by omega
      have hsz : (Tryd.prog.info? 75).map (·.size) = some (wv (schN l 48)).size := by rw [wv_size, hlen]; kernel_rfl
      go_wp2_with (first | (refine wpList_load_row rfl 75 (.tmp 2) rfl (w.heap.size + 1) rfl _ (wv (schN l 48)) (0, 0) _ HW.out Tryd.underlying75 rfl hsz ?_) | (refine wpList_store_row rfl 75 (.tmp 2) (.tmp 50) rfl (w.heap.size + 1) (wv (schN l 48)) rfl rfl _ _ HW.out hsz rfl (wv_one _) ?_))
      refine bodyPost_ret (v := .agg (wv (sched l))) ?_ rfl ⟨rfl, below_setRow HB.out (Nat.le_succ _) _⟩
      exact results_cell_row rfl _ _ (w.heap.size + 1) 75 _ (0, 0) _ rfl (WB.setRow HW.out _) Tryd.underlying75 rfl hsz
end Go.Proofs.YtmeoicfeiamkmaaDoor
