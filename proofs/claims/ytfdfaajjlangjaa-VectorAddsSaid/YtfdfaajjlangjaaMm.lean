/-
  Package vector: the first device of a vector, what is taken of it; the devices of two vectors and both numbers, one after the other (lists).
-/
import Derived.Test.YtfdfaajjlangjaaMi
import Derived.Test.YtfdfaajjlangjaaRp
import Derived.Deep.RegionHeld3
namespace Go.Proofs.Ytfdfaajjlangjaa
open Go.RowKit
set_option linter.unusedVariables false
set_option linter.unusedSimpArgs false

/-- The first device; 512 if there is none. -/
def hdV : List Dt → Int
  | [] => 512
  | d :: _ => d.1
theorem hdV_lo {s : List Dt} (h : okV s) {k : Int} (hk : k < hdV s) : ∀ e ∈ s, k < e.1 := by
  cases s with
  | nil => intro e he; cases he
  | cons d s =>
    intro e he
    rcases List.mem_cons.1 he with rfl | he
    · exact hk
    · have := h.2.1 e he
      simp only [hdV] at hk
      omega
theorem hdV_le {s : List Dt} (h : okV s) : 0 ≤ hdV s ∧ hdV s ≤ 512 := by
  cases s with
  | nil => simp [hdV]
  | cons d s => have := h.1; unfold dotP at this; simp only [hdV]; omega
theorem dvV_L {d : Dt} {r s : List Dt} (h : d.1 < hdV s) : dvV (d :: r) s = d.1 :: dvV r s := by
  cases s with
  | nil => exact dvV_l d r
  | cons e s => exact dvV_lt r s h
theorem dvV_R {e : Dt} {r s : List Dt} (h : e.1 < hdV r) : dvV r (e :: s) = e.1 :: dvV r s := by
  cases r with
  | nil => exact dvV_r e s
  | cons d r => exact dvV_gt r s h

/-- Behind the devices X of l and m the rests are r and s. -/
structure Prs (l m r s : List Dt) (X : List Int) : Prop where
  okl : okV r
  okr : okV s
  dv : X ++ dvV r s = dvV l m
  at_ : ∀ k ∈ dvV r s, atV l k = atV r k ∧ atV m k = atV s k
theorem Prs.start {l m : List Dt} (h1 : okV l) (h2 : okV m) : Prs l m l m [] := ⟨h1, h2, rfl, fun _ _ => ⟨rfl, rfl⟩⟩
theorem Prs.done {l m : List Dt} {X : List Int} (h : Prs l m [] [] X) : X = dvV l m := by
  have := h.dv
  rw [show dvV [] [] = [] from by unfold dvV; rfl, List.append_nil] at this
  exact this
theorem Prs.step {l m r s r' s' : List Dt} {X : List Int} {k : Int} (h : Prs l m r s X) (hk : dvV r s = k :: dvV r' s') (h1 : okV r') (h2 : okV s')
    (hr : ∀ x, k < x → atV r x = atV r' x) (hs : ∀ x, k < x → atV s x = atV s' x) : Prs l m r' s' (X ++ [k]) ∧ atV l k = atV r k ∧ atV m k = atV s k ∧ X.length < (dvV l m).length := by
  have hi := dvV_inc r s h.okl h.okr
  rw [hk] at hi
  refine ⟨⟨h1, h2, by rw [← h.dv, hk, List.append_assoc]; rfl, fun x hx => ?_⟩, (h.at_ k (by rw [hk]; exact List.mem_cons_self ..)).1, (h.at_ k (by rw [hk]; exact List.mem_cons_self ..)).2, ?_⟩
  · have h3 := h.at_ x (by rw [hk]; exact List.mem_cons_of_mem _ hx)
    have h4 : k < x := hi.2.1 x hx
    rw [← hr x h4, ← hs x h4]
    exact h3
  · rw [← h.dv, hk]; simp
theorem Prs.left {l m r s : List Dt} {d : Dt} {X : List Int} (h : Prs l m (d :: r) s X) (hd : d.1 < hdV s) : Prs l m r s (X ++ [d.1]) ∧ atV l d.1 = d.2 ∧ atV m d.1 = 0 ∧ X.length < (dvV l m).length := by
  obtain ⟨h1, h2, h3, h4⟩ := h.step (dvV_L hd) h.okl.2.2 h.okr (fun x hx => by rw [atV_cons, if_neg (by omega)]) (fun _ _ => rfl)
  refine ⟨h1, ?_, ?_, h4⟩
  · rw [h2, atV_cons, if_pos rfl]
  · rw [h3]; exact atV_lo (hdV_lo h.okr hd)
theorem Prs.right {l m r s : List Dt} {e : Dt} {X : List Int} (h : Prs l m r (e :: s) X) (he : e.1 < hdV r) : Prs l m r s (X ++ [e.1]) ∧ atV l e.1 = 0 ∧ atV m e.1 = e.2 ∧ X.length < (dvV l m).length := by
  obtain ⟨h1, h2, h3, h4⟩ := h.step (dvV_R he) h.okl h.okr.2.2 (fun _ _ => rfl) (fun x hx => by rw [atV_cons, if_neg (by omega)])
  refine ⟨h1, ?_, ?_, h4⟩
  · rw [h2]; exact atV_lo (hdV_lo h.okl he)
  · rw [h3, atV_cons, if_pos rfl]
theorem Prs.both {l m r s : List Dt} {d e : Dt} {X : List Int} (h : Prs l m (d :: r) (e :: s) X) (hd : d.1 = e.1) : Prs l m r s (X ++ [d.1]) ∧ atV l d.1 = d.2 ∧ atV m d.1 = e.2 ∧ X.length < (dvV l m).length := by
  obtain ⟨h1, h2, h3, h4⟩ := h.step (dvV_eq r s hd) h.okl.2.2 h.okr.2.2 (fun x hx => by rw [atV_cons, if_neg (by omega)]) (fun x hx => by rw [atV_cons, if_neg (by omega)])
  refine ⟨h1, ?_, ?_, h4⟩
  · rw [h2, atV_cons, if_pos rfl]
  · rw [h3, atV_cons, if_pos hd.symm]

theorem RdDt.head {B : Nat} {w : World} {a : Option Addr} {d : Dt} {l : List Dt} (h : RdDt B w a (d :: l)) : ∃ b o, a = some ⟨b, o, none⟩ ∧ b < B ∧ w.cell? ⟨b, o, none⟩ = some (.int .i64 d.1) ∧ w.cell? ⟨b, o + 1, none⟩ = some (.int .i64 d.2) := by
  obtain ⟨b, o, e, hb, hc⟩ := h.at_ (by simp)
  have := hc 0 (by simp)
  simp only [Nat.zero_mul, Nat.add_zero, List.getElem_cons_zero] at this
  exact ⟨b, o, e, hb, this⟩
set_option maxRecDepth 100000 in
theorem first_any (a : Option Addr) (cap : Nat) (l : List Dt) (w : World) (hl : RdDt w.heap.size w a l) :
    Calls Try.prog 41 #[.slice a l.length cap] w fun e w' => e = .returned (.int .i64 (hdV l)) ∧ w' = w := by
  cases l with
  | nil =>
    go_enter Try.func41, Try.ntmps41
    go_wp2_with fail
    go_ret
    exact ⟨rfl, rfl⟩
  | cons d l =>
    obtain ⟨b, o, rfl, _, c0, _⟩ := hl.head
    have hm := hl.1
    unfold maxLen at hm
    simp only [List.length_cons] at hm ⊢
    have f1 : (((l.length + 1 : Nat) : Int) == 0) = false := beq_eq_false_iff_ne.2 (by omega)
    have f2 : (0 : Int) < ((l.length + 1 : Nat) : Int) := by omega
    simp only [hdV]
    clear hl
    generalize l.length + 1 = n at *
    go_enter Try.func41, Try.ntmps41
    go_wp2_with fail
    go_ret
    exact ⟨rfl, rfl⟩
set_option maxRecDepth 100000 in
theorem taken_skip (a : Option Addr) (cap : Nat) (l : List Dt) (k : Int) (hk : hdV l ≠ k) (w : World) (hl : RdDt w.heap.size w a l) :
    Calls Try.prog 42 #[.slice a l.length cap, .int .i64 k] w fun e w' => e = .returned (.tuple #[.int .i64 0, .slice a l.length cap]) ∧ w' = w := by
  have K := first_any a cap l w hl
  have f1 : (hdV l == k) = false := beq_eq_false_iff_ne.2 hk
  generalize hdV l = q at *
  generalize l.length = n at *
  clear hl hk
  go_enter Try.func42, Try.ntmps42
  go_wp2_with (go_at_call 41; with_reducible refine K.mono ?_; rintro e wo ⟨rfl, hwo⟩; rw [hwo]; clear hwo wo)
  go_ret2
  exact ⟨rfl, rfl⟩
set_option maxRecDepth 100000 in
set_option maxHeartbeats 800000 in
theorem taken_take (a : Option Addr) (cap : Nat) (d : Dt) (l : List Dt) (w : World) (hl : RdDt w.heap.size w a (d :: l)) :
    Calls Try.prog 42 #[.slice a (d :: l).length cap, .int .i64 d.1] w fun e w' => e = .returned (.tuple #[.int .i64 d.2, tailDt a (d :: l).length cap 1]) ∧ w' = w.drew := by
  have K := first_any a cap (d :: l) w hl
  obtain ⟨b, o, rfl, hbb, _, c1⟩ := hl.head
  have HBB := Lib.hid hbb
  have C1 := Lib.hid c1
  obtain ⟨T, hT⟩ := exEqD (tailDt (some ⟨b, o, none⟩) (d :: l).length cap 1)
  have HT : Hid (Value.slice (if cap = 1 then some ⟨b, o, none⟩ else some ⟨b, o + 2, none⟩) ((d :: l).length - 1) (cap - 1) = T) := Lib.hid (by rw [← hT]; unfold tailDt; simp [addr_add])
  rw [hT]
  have hm := hl.1
  unfold maxLen at hm
  simp only [List.length_cons, hdV] at hm K HT ⊢
  have f3 : (1 : Int) ≤ ((l.length + 1 : Nat) : Int) := by omega
  have f2 : (0 : Int) < ((l.length + 1 : Nat) : Int) := by omega
  clear hl hT c1 hbb
  generalize l.length + 1 = n at *
  go_enter Try.func42, Try.ntmps42
  go_wp2_with (go_at_call 41; with_reducible refine K.mono ?_; rintro e wo ⟨rfl, hwo⟩; rw [hwo]; clear hwo wo)
  --R3
  rename_i K0 hK0
  refine region_writes [11, 12, 13, 14, 15, 16, 4, 5] (fun f W => f 4 = .int .i64 d.2 ∧ f 5 = T ∧ W = w.drew) ?_ ?_
  rotate_left
  · clear hK0 K0
    have HE : Hid (Below w.heap.size w w.drew) := Lib.hid ((Below.refl _ _).drew)
    have HSB : Hid (∀ W, Below w.heap.size w W → W.cell? ⟨b, o + 1, none⟩ = some (.int .i64 d.2)) := Lib.hid (fun W hW => (hW.cell (p := ⟨b, o + 1, none⟩) HBB.out).trans C1.out)
    refine wp_region_held_drew (S := fun W => W.cell? ⟨b, o + 1, none⟩ = some (.int .i64 d.2)) (by kernel_rfl) (HSB.out _ HE.out) (fun hHeld => ?_)
    refine wpAnyH_take (i := 0) (v := .slice (some ⟨b, o, none⟩) n cap) rfl (by kernel_rfl) (by kernel_rfl) (by kernel_rfl) (fun _ _ _ h => nomatch h.1) (Or.inl ⟨by rfl, fun w _ => by go_simp⟩) hHeld ?_
    simp only [Act.put, List.getElem_toArray, List.getElem_cons_zero, List.getElem_cons_succ, List.setIfInBounds_toArray, List.set_cons_zero, List.set_cons_succ]
    refine wpAnyH_take (i := 1) (v := .pointer (some ⟨b, o, none⟩)) rfl (by kernel_rfl) (by kernel_rfl) (by kernel_rfl) (fun _ _ _ h => nomatch h.1) (Or.inl ⟨by rfl, fun w _ => by go_simp; intros; omega⟩) hHeld ?_
    simp only [Act.put, List.getElem_toArray, List.getElem_cons_zero, List.getElem_cons_succ, List.setIfInBounds_toArray, List.set_cons_zero, List.set_cons_succ]
    refine wpAnyH_take (i := 2) (v := .pointer (some ⟨b, o + 1, none⟩)) rfl (by kernel_rfl) (by kernel_rfl) (by kernel_rfl) (fun _ _ _ h => nomatch h.1) (Or.inl ⟨by rfl, fun w _ => by go_simp⟩) hHeld ?_
    simp only [Act.put, List.getElem_toArray, List.getElem_cons_zero, List.getElem_cons_succ, List.setIfInBounds_toArray, List.set_cons_zero, List.set_cons_succ]
    refine wpAnyH_take (i := 3) (v := .int .i64 d.2) rfl (by kernel_rfl) (by kernel_rfl) (by kernel_rfl) (fun _ _ _ h => nomatch h.1) (Or.inl ⟨by rfl, fun w hw => by have h1 := hw; go_simp⟩) hHeld ?_
    simp only [Act.put, List.getElem_toArray, List.getElem_cons_zero, List.getElem_cons_succ, List.setIfInBounds_toArray, List.set_cons_zero, List.set_cons_succ]
    refine wpAnyH_take (i := 4) (v := .slice (some ⟨b, o, none⟩) n cap) rfl (by kernel_rfl) (by kernel_rfl) (by kernel_rfl) (fun _ _ _ h => nomatch h.1) (Or.inl ⟨by rfl, fun w _ => by go_simp⟩) hHeld ?_
    simp only [Act.put, List.getElem_toArray, List.getElem_cons_zero, List.getElem_cons_succ, List.setIfInBounds_toArray, List.set_cons_zero, List.set_cons_succ]
    refine wpAnyH_take (i := 5) (v := T) rfl (by kernel_rfl) (by kernel_rfl) (by kernel_rfl) (fun _ _ _ h => nomatch h.1) (Or.inl ⟨by rfl, fun w _ => by go_simp; exact HT.out⟩) hHeld ?_
    simp only [Act.put, List.getElem_toArray, List.getElem_cons_zero, List.getElem_cons_succ, List.setIfInBounds_toArray, List.set_cons_zero, List.set_cons_succ]
    refine wpAnyH_take (i := 6) (v := .int .i64 d.2) rfl (by kernel_rfl) (by kernel_rfl) (by kernel_rfl) (fun _ _ _ h => nomatch h.1) (Or.inl ⟨by rfl, fun w _ => by go_simp⟩) hHeld ?_
    simp only [Act.put, List.getElem_toArray, List.getElem_cons_zero, List.getElem_cons_succ, List.setIfInBounds_toArray, List.set_cons_zero, List.set_cons_succ]
    refine wpAnyH_take (i := 7) (v := T) rfl (by kernel_rfl) (by kernel_rfl) (by kernel_rfl) (fun _ _ _ h => nomatch h.1) (Or.inl ⟨by rfl, fun w _ => by go_simp⟩) hHeld ?_
    simp only [Act.put, List.getElem_toArray, List.getElem_cons_zero, List.getElem_cons_succ, List.setIfInBounds_toArray, List.set_cons_zero, List.set_cons_succ]
    refine wpAnyH_done (by kernel_rfl) ?_ _
    exact ⟨rfl, writes_ex (by kernel_rfl) (⟨rfl, rfl, rfl⟩)⟩
  --R3 end
  rintro f W ⟨e4, e5, rfl⟩
  simp only [writes, List.foldl_cons, List.foldl_nil, Act.put, List.setIfInBounds_toArray, List.set_cons_zero, List.set_cons_succ]
  rw [e4, e5]
  clear e4 e5
  go_wp2_with fail
  go_ret2
  exact ⟨rfl, rfl⟩
end Go.Proofs.Ytfdfaajjlangjaa
