/-
  Contract of Decode (codec).
-/
import Derived.Test.YtihllbblehjhlaaLst
import Derived.Defers
import Derived.Recover
import Derived.Laws.Pointers
namespace Go.Proofs.Ytihllbblehjhlaa
open Go.RowKit

/-- The deferred function, where the reader has panicked. -/
theorem catch_panicking (p q : Nat) (x0 x1 x2 x3 y : Value) (u : TypeId) (pv : Value) (older : List PanicEntry) (w : World) (h0 : w.cell? ⟨p, 0, none⟩ = some x0) (h1 : w.cell? ⟨p, 1, none⟩ = some x1) (h2 : w.cell? ⟨p, 2, none⟩ = some x2) (h3 : w.cell? ⟨p, 3, none⟩ = some x3) (h4 : w.cell? ⟨q, 0, none⟩ = some y) (hf : ∀ j, w.frozen? ⟨p, j, none⟩ = false) (hg : w.frozen? ⟨q, 0, none⟩ = false) (hpq : ¬ p = q) :
    CallsD Try.prog 29 #[.pointer (some ⟨p, 0, none⟩), .pointer (some ⟨q, 0, none⟩)] (.panicking ({ v := .iface u pv, recovered := false } :: older)) w fun e u' w' =>
      e = .returned (.tuple #[]) ∧ u' = .panicking ({ v := .iface u pv, recovered := true } :: older) ∧
      w' = ((((w.setCell ⟨p, 0, none⟩ (.int .i64 0)).setCell ⟨p, 1, none⟩ (.int .i64 0)).setCell ⟨p, 2, none⟩ (.string ByteArray.empty)).setCell ⟨p, 3, none⟩ (.slice none 0 0)).setCell ⟨q, 0, none⟩ (.int .i64 10) := by
  refine callsD_of_wpS Try.func29 rfl fun c₀ cs hu => ?_
  apply wpS_seq
  apply wpS_region
  simp [wpOpsS, go_sem, recoverD, hu, Try.ntmps29, Exit.thenS]
  refine wpS_cond (t := true) (by simp [Act.eval, Array.replicate]) ?_
  simp only [if_true]
  apply wpS_region
  simp [wpOpsS, go_sem, h0, h1, h2, h3, h4, hf, hg, bodyPostS, results, Try.results29]
  rfl

theorem catch_idle (p q : Addr) (w : World) :
    CallsD Try.prog 29 #[.pointer (some p), .pointer (some q)] .returning w fun e u' w' => e = .returned (.tuple #[]) ∧ u' = .returning ∧ w' = w := by
  refine callsD_of_wpS Try.func29 rfl fun c₀ cs hu => ?_
  apply wpS_seq
  apply wpS_region
  simp [wpOpsS, go_sem, recoverD, hu, Try.ntmps29, Exit.thenS]
  refine wpS_cond (t := false) (by simp [Act.eval, Array.replicate]) ?_
  simp only [Bool.false_eq_true, if_false]
  refine wpS_of_wp (wp_skip ?_)
  cases c₀
  simp_all [bodyPostS, results, Try.results29]

/-- What Decode answers: the value, or nothing. -/
def dec (l : List UInt8) : Option Val := match dval 16 l with
  | some (v, []) => some v
  | _ => none

/-- Four cells are written. -/
theorem set4_cells {w : World} {N q : Nat} {x0 x1 x2 x3 y : Value} (v0 v1 v2 v3 : Value) (hq : ¬ N = q) (c0 : w.cell? ⟨N, 0, none⟩ = some x0) (c1 : w.cell? ⟨N, 1, none⟩ = some x1) (c2 : w.cell? ⟨N, 2, none⟩ = some x2) (c3 : w.cell? ⟨N, 3, none⟩ = some x3) (c4 : w.cell? ⟨q, 0, none⟩ = some y) :
    ((((w.setCell ⟨N, 0, none⟩ v0).setCell ⟨N, 1, none⟩ v1).setCell ⟨N, 2, none⟩ v2).setCell ⟨N, 3, none⟩ v3).cell? ⟨N, 0, none⟩ = some v0 ∧ ((((w.setCell ⟨N, 0, none⟩ v0).setCell ⟨N, 1, none⟩ v1).setCell ⟨N, 2, none⟩ v2).setCell ⟨N, 3, none⟩ v3).cell? ⟨N, 1, none⟩ = some v1 ∧ ((((w.setCell ⟨N, 0, none⟩ v0).setCell ⟨N, 1, none⟩ v1).setCell ⟨N, 2, none⟩ v2).setCell ⟨N, 3, none⟩ v3).cell? ⟨N, 2, none⟩ = some v2 ∧ ((((w.setCell ⟨N, 0, none⟩ v0).setCell ⟨N, 1, none⟩ v1).setCell ⟨N, 2, none⟩ v2).setCell ⟨N, 3, none⟩ v3).cell? ⟨N, 3, none⟩ = some v3 ∧ ((((w.setCell ⟨N, 0, none⟩ v0).setCell ⟨N, 1, none⟩ v1).setCell ⟨N, 2, none⟩ v2).setCell ⟨N, 3, none⟩ v3).cell? ⟨q, 0, none⟩ = some y := by
  refine ⟨?_, ?_, ?_, ?_, ?_⟩ <;> simp [go_sem, c0, c1, c2, c3, c4, hq, Ne.symm hq]
theorem set_err {w : World} {N q : Nat} {x0 x1 x2 x3 y : Value} (v : Value) (hq : ¬ N = q) (h : w.cell? ⟨N, 0, none⟩ = some x0 ∧ w.cell? ⟨N, 1, none⟩ = some x1 ∧ w.cell? ⟨N, 2, none⟩ = some x2 ∧ w.cell? ⟨N, 3, none⟩ = some x3 ∧ w.cell? ⟨q, 0, none⟩ = some y) :
    (w.setCell ⟨q, 0, none⟩ v).cell? ⟨N, 0, none⟩ = some x0 ∧ (w.setCell ⟨q, 0, none⟩ v).cell? ⟨N, 1, none⟩ = some x1 ∧ (w.setCell ⟨q, 0, none⟩ v).cell? ⟨N, 2, none⟩ = some x2 ∧ (w.setCell ⟨q, 0, none⟩ v).cell? ⟨N, 3, none⟩ = some x3 ∧ (w.setCell ⟨q, 0, none⟩ v).cell? ⟨q, 0, none⟩ = some v := by
  obtain ⟨c0, c1, c2, c3, c4⟩ := h
  refine ⟨?_, ?_, ?_, ?_, ?_⟩ <;> simp [go_sem, c0, c1, c2, c3, c4, hq, Ne.symm hq]
theorem below_err {w w1 : World} {B q : Nat} (h : Below B w w1) (hq : B ≤ q) (v : Value) : Below B w (w1.setCell ⟨q, 0, none⟩ v) := h.setCell hq v
theorem below_set4 {w w1 : World} {B N : Nat} (h : Below B w w1) (hN : B ≤ N) (v0 v1 v2 v3 : Value) : Below B w ((((w1.setCell ⟨N, 0, none⟩ v0).setCell ⟨N, 1, none⟩ v1).setCell ⟨N, 2, none⟩ v2).setCell ⟨N, 3, none⟩ v3) := (((h.setCell hN v0).setCell hN v1).setCell hN v2).setCell hN v3

/-- What Decode leaves. -/
def DecPost (w : World) (res : Option Val) (e : Ending) (w' : World) : Prop :=
  (∃ v a cap, res = some v ∧ e = .returned (.tuple #[.agg #[.int .i64 v.k, .int .i64 v.n, .string v.s, .slice a v.kids.len cap], .int .i64 0]) ∧ I64 v.k ∧ I64 v.n ∧ v.s.size ≤ maxLen ∧ RepQ (fun b => w.heap.size ≤ b ∧ b < w'.heap.size) w' a cap v.kids ∧ Below w.heap.size w w') ∨
  (res = none ∧ e = .returned (.tuple #[.agg #[.int .i64 0, .int .i64 0, .string ByteArray.empty, .slice none 0 0], .int .i64 10]) ∧ Below w.heap.size w w')

/-- The three blocks that Decode makes first, in a later world in which the reader's alone has turned. -/
theorem dec_boxes {w w1 : World} {x0 x1 x2 x3 y z : Value} {S T U : TypeId} (h : (((w.alloc (.cells #[x0, x1, x2, x3] S)).alloc (.cells #[y] T)).alloc (.cells #[z] U)).grownBy w1 (some (w.heap.size + 1 + 1))) :
    (w1.cell? ⟨w.heap.size, 0, none⟩ = some x0 ∧ w1.cell? ⟨w.heap.size, 1, none⟩ = some x1 ∧ w1.cell? ⟨w.heap.size, 2, none⟩ = some x2 ∧ w1.cell? ⟨w.heap.size, 3, none⟩ = some x3) ∧ w1.cell? ⟨w.heap.size + 1, 0, none⟩ = some y ∧ (∀ j, w1.frozen? ⟨w.heap.size, j, none⟩ = false) ∧ w1.frozen? ⟨w.heap.size + 1, 0, none⟩ = false ∧ Below w.heap.size w w1 := by
  have hs1 : (w.alloc (.cells #[x0, x1, x2, x3] S)).heap.size = w.heap.size + 1 := by simp
  have hs2 : ((w.alloc (.cells #[x0, x1, x2, x3] S)).alloc (.cells #[y] T)).heap.size = w.heap.size + 1 + 1 := by simp
  have hs3 : (((w.alloc (.cells #[x0, x1, x2, x3] S)).alloc (.cells #[y] T)).alloc (.cells #[z] U)).heap.size = w.heap.size + 1 + 1 + 1 := by simp
  have hA : Below (w.heap.size + 1) (w.alloc (.cells #[x0, x1, x2, x3] S)) w1 :=
    (((Below.refl _ _).alloc (by omega) _).alloc (by omega) _).trans ((Below.refl _ _).grown h (by omega) fun k hk => by injection hk with hk; omega)
  have hBB : Below (w.heap.size + 1 + 1) ((w.alloc (.cells #[x0, x1, x2, x3] S)).alloc (.cells #[y] T)) w1 :=
    ((Below.refl _ _).alloc (by omega) _).trans ((Below.refl _ _).grown h (by omega) fun k hk => by injection hk with hk; omega)
  have hnew : ∀ (X : World), (X.alloc (.cells #[y] T)).cell? ⟨X.heap.size, 0, none⟩ = some y ∧ (X.alloc (.cells #[y] T)).frozen? ⟨X.heap.size, 0, none⟩ = false := fun X => ⟨by simp, by simp⟩
  have h1 := hnew (w.alloc (.cells #[x0, x1, x2, x3] S))
  rw [hs1] at h1
  refine ⟨box4 hA, ?_, fun j => ?_, ?_, below_start hA⟩
  · rw [hBB.cell (by simp)]; exact h1.1
  · rw [hA.frozen (by simp)]; simp
  · rw [hBB.frozen (by simp)]; exact h1.2

set_option maxRecDepth 100000 in
set_option maxHeartbeats 800000 in
theorem decode_any (B : Nat) (a : Option Addr) (cap : Nat) (l : List UInt8) (w : World) (hr : RdB B w a l) (hB : B ≤ w.heap.size) (hcap : l.length ≤ cap) (hcm : cap ≤ maxLen) (hll : l.length ≤ 1000000000000) :
    Calls Try.prog 14 #[.slice a l.length cap] w (DecPost w (dec l)) := by
  have hmf : ∀ (fn : Fn) (first cap : Array Value) (w : World), (Instr.makeFunc fn first cap).run Try.prog w = .ok (.func fn first cap) w := fun _ _ _ _ => rfl
  have HRd := Lib.hid hr
  have HCP := Lib.hid (And.intro hcap hcm)
  clear hr hcap hcm
  go_enter_defers Try.func14, Try.ntmps14
  go_wp2_with fail
  refine (value_any 16 (Nat.le_refl _) B (w.heap.size + 1 + 1) 0 l _ (by show _ = _; omega) ⟨by omega, World.frozen?_alloc_at _ _ _ _ (by simp), a, cap, (World.cell?_alloc_at _ _ _ _ (by simp)).trans rfl, HCP.out.1, HCP.out.2, HRd.out.below ((((Below.refl _ _).alloc hB _).alloc (le_alloc hB _) _).alloc (le_alloc (le_alloc hB _) _) _)⟩ hll).mono ?_
  intro e w1 hp
  rcases hp with ⟨v, a1, cap1, r, hd, rfl, hrd, hg, hk, hn, hs, hq⟩ | ⟨hd, rfl, hg⟩
  · obtain ⟨⟨c0, c1, c2, c3⟩, c4, cf, cg, hb⟩ := dec_boxes hg
    have HD := Lib.hid hd
    have HK := Lib.hid (And.intro hk (And.intro hn hs))
    have HQ := Lib.hid (show RepQ (fun b => w.heap.size + 1 + 1 + 1 ≤ b ∧ b < w1.heap.size) w1 a1 cap1 v.kids from hq.keep (fun k hk => ⟨by have := hk.1; simp at this; omega, hk.2⟩) fun _ _ => rfl)
    have HB := Lib.hid hb
    obtain ⟨r0, r1, ra, rc, r2, r3, r4, r5⟩ := hrd
    have HG := Lib.hid hg
    have HC := Lib.hid (And.intro c0 (And.intro c1 (And.intro c2 (And.intro c3 (And.intro c4 (And.intro cf cg))))))
    clear hd hk hn hs hq hb r5 hg r3 r4
    cases r with
    | nil =>
      have HD2 : Hid (dec l = some v) := by show _ = _; unfold dec; rw [HD.out]
      go_wp2
      refine leaves_cons (f := 29) (args := #[.pointer (some ⟨w.heap.size, 0, none⟩), .pointer (some ⟨w.heap.size + 1, 0, none⟩)]) (by simp) (by simp [go_sem]) ?_
      refine (catch_idle ⟨w.heap.size, 0, none⟩ ⟨w.heap.size + 1, 0, none⟩ _).mono ?_
      rintro e u' w'' ⟨rfl, rfl, rfl⟩
      obtain ⟨c0, c1, c2, c3, c4, cf, cg⟩ := HC.out
      have hA := set4_cells (.int .i64 v.k) (.int .i64 v.n) (.string v.s) (.slice a1 v.kids.len cap1) (show ¬ w.heap.size = w.heap.size + 1 by omega) c0 c1 c2 c3 c4
      have hA2 := set4_cells (.int .i64 v.k) (.int .i64 v.n) (.string v.s) (.slice a1 v.kids.len cap1) (show ¬ w.heap.size = w.heap.size + 1 by omega) hA.1 hA.2.1 hA.2.2.1 hA.2.2.2.1 hA.2.2.2.2
      obtain ⟨d0, d1, d2, d3, d4⟩ := set_err (.int .i64 0) (show ¬ w.heap.size = w.heap.size + 1 by omega) hA2
      have hb3 := below_err (below_set4 (below_set4 HB.out (Nat.le_refl _) (.int .i64 v.k) (.int .i64 v.n) (.string v.s) (.slice a1 v.kids.len cap1)) (Nat.le_refl _) (.int .i64 v.k) (.int .i64 v.n) (.string v.s) (.slice a1 v.kids.len cap1)) (show w.heap.size ≤ w.heap.size + 1 by omega) (.int .i64 0)
      have hb4 := below_err (below_set4 (below_set4 (Below.refl (w.heap.size) w1) (Nat.le_refl _) (.int .i64 v.k) (.int .i64 v.n) (.string v.s) (.slice a1 v.kids.len cap1)) (Nat.le_refl _) (.int .i64 v.k) (.int .i64 v.n) (.string v.s) (.slice a1 v.kids.len cap1)) (show w.heap.size ≤ w.heap.size + 1 by omega) (.int .i64 0)
      have hkeep : ∀ k, ¬ k = w.heap.size → ¬ k = w.heap.size + 1 → (((((((((w1.setCell ⟨w.heap.size, 0, none⟩ (.int .i64 v.k)).setCell ⟨w.heap.size, 1, none⟩ (.int .i64 v.n)).setCell ⟨w.heap.size, 2, none⟩ (.string v.s)).setCell ⟨w.heap.size, 3, none⟩ (.slice a1 v.kids.len cap1)).setCell ⟨w.heap.size, 0, none⟩ (.int .i64 v.k)).setCell ⟨w.heap.size, 1, none⟩ (.int .i64 v.n)).setCell ⟨w.heap.size, 2, none⟩ (.string v.s)).setCell ⟨w.heap.size, 3, none⟩ (.slice a1 v.kids.len cap1)).setCell ⟨w.heap.size + 1, 0, none⟩ (.int .i64 0)).heap[k]? = w1.heap[k]? := by
        intro k hk1 hk2
        have g1 : ∀ (X : World) (j : Nat) (v : Value), (X.setCell ⟨w.heap.size, j, none⟩ v).heap[k]? = X.heap[k]? := fun X j v => Below.heap_setCell X ⟨w.heap.size, j, none⟩ v k hk1
        have g2 : ∀ (X : World) (j : Nat) (v : Value), (X.setCell ⟨w.heap.size + 1, j, none⟩ v).heap[k]? = X.heap[k]? := fun X j v => Below.heap_setCell X ⟨w.heap.size + 1, j, none⟩ v k hk2
        rw [g2, g1, g1, g1, g1, g1, g1, g1, g1]
      have hsz : (((((((((w1.setCell ⟨w.heap.size, 0, none⟩ (.int .i64 v.k)).setCell ⟨w.heap.size, 1, none⟩ (.int .i64 v.n)).setCell ⟨w.heap.size, 2, none⟩ (.string v.s)).setCell ⟨w.heap.size, 3, none⟩ (.slice a1 v.kids.len cap1)).setCell ⟨w.heap.size, 0, none⟩ (.int .i64 v.k)).setCell ⟨w.heap.size, 1, none⟩ (.int .i64 v.n)).setCell ⟨w.heap.size, 2, none⟩ (.string v.s)).setCell ⟨w.heap.size, 3, none⟩ (.slice a1 v.kids.len cap1)).setCell ⟨w.heap.size + 1, 0, none⟩ (.int .i64 0)).heap.size = w1.heap.size := by simp
      clear hA hA2 c0 c1 c2 c3 c4 cf cg hb4
      generalize (((((((((w1.setCell ⟨w.heap.size, 0, none⟩ (.int .i64 v.k)).setCell ⟨w.heap.size, 1, none⟩ (.int .i64 v.n)).setCell ⟨w.heap.size, 2, none⟩ (.string v.s)).setCell ⟨w.heap.size, 3, none⟩ (.slice a1 v.kids.len cap1)).setCell ⟨w.heap.size, 0, none⟩ (.int .i64 v.k)).setCell ⟨w.heap.size, 1, none⟩ (.int .i64 v.n)).setCell ⟨w.heap.size, 2, none⟩ (.string v.s)).setCell ⟨w.heap.size, 3, none⟩ (.slice a1 v.kids.len cap1)).setCell ⟨w.heap.size + 1, 0, none⟩ (.int .i64 0)) = X at *
      simp [Leaves, settle, results, Try.results14, go_sem, d0, d1, d2, d3, d4]
      refine .inl ⟨v, a1, cap1, HD2.out, rfl, HK.out.1, HK.out.2.1, HK.out.2.2, ?_, hb3⟩
      exact HQ.out.keep (fun k hk => ⟨by omega, by omega⟩) fun k hk => hkeep k (by omega) (by omega)
    | cons t r' =>
      have HD2 : Hid (dec l = none) := by show _ = _; unfold dec; rw [HD.out]
      have hpos : (0 : Int) < ((t :: r').length : Int) := by simp only [List.length_cons]; omega
      go_wp2
      obtain ⟨c0, c1, c2, c3, c4, cf, cg⟩ := HC.out
      obtain ⟨d0, d1, d2, d3, d4⟩ := set4_cells (.int .i64 v.k) (.int .i64 v.n) (.string v.s) (.slice a1 v.kids.len cap1) (show ¬ w.heap.size = w.heap.size + 1 by omega) c0 c1 c2 c3 c4
      have hb3 := below_set4 HB.out (Nat.le_refl _) (.int .i64 v.k) (.int .i64 v.n) (.string v.s) (.slice a1 v.kids.len cap1)
      have df : ∀ j, ((((w1.setCell ⟨w.heap.size, 0, none⟩ (.int .i64 v.k)).setCell ⟨w.heap.size, 1, none⟩ (.int .i64 v.n)).setCell ⟨w.heap.size, 2, none⟩ (.string v.s)).setCell ⟨w.heap.size, 3, none⟩ (.slice a1 v.kids.len cap1)).frozen? ⟨w.heap.size, j, none⟩ = false := fun j => by simpa using cf j
      have dg : ((((w1.setCell ⟨w.heap.size, 0, none⟩ (.int .i64 v.k)).setCell ⟨w.heap.size, 1, none⟩ (.int .i64 v.n)).setCell ⟨w.heap.size, 2, none⟩ (.string v.s)).setCell ⟨w.heap.size, 3, none⟩ (.slice a1 v.kids.len cap1)).frozen? ⟨w.heap.size + 1, 0, none⟩ = false := by simpa using cg
      clear c0 c1 c2 c3 c4 cf cg
      generalize ((((w1.setCell ⟨w.heap.size, 0, none⟩ (.int .i64 v.k)).setCell ⟨w.heap.size, 1, none⟩ (.int .i64 v.n)).setCell ⟨w.heap.size, 2, none⟩ (.string v.s)).setCell ⟨w.heap.size, 3, none⟩ (.slice a1 v.kids.len cap1)) = X at *
      refine leaves_cons (f := 29) (args := #[.pointer (some ⟨w.heap.size, 0, none⟩), .pointer (some ⟨w.heap.size + 1, 0, none⟩)]) (by simp) (by simp [go_sem]) ?_
      refine (catch_panicking w.heap.size (w.heap.size + 1) _ _ _ _ _ 28 (.int .i64 10) [] _ d0 d1 d2 d3 d4 df dg (by omega)).mono ?_
      rintro e u' w'' ⟨rfl, rfl, rfl⟩
      simp [Leaves, settle, results, Try.results14, go_sem, d0, d1, d2, d3, d4]
      exact .inr ⟨HD2.out, rfl, below_err (below_set4 hb3 (Nat.le_refl _) _ _ _ _) (by omega) _⟩
  · obtain ⟨⟨c0, c1, c2, c3⟩, c4, cf, cg, hb⟩ := dec_boxes hg
    have HD := Lib.hid hd
    have HB := Lib.hid hb
    clear hd hg hb
    refine leaves_cons (f := 29) (args := #[.pointer (some ⟨w.heap.size, 0, none⟩), .pointer (some ⟨w.heap.size + 1, 0, none⟩)]) (by simp) (by simp [go_sem]) ?_
    refine (catch_panicking w.heap.size (w.heap.size + 1) _ _ _ _ _ 28 (.int .i64 10) [] _ c0 c1 c2 c3 c4 cf cg (by omega)).mono ?_
    rintro e u' w'' ⟨rfl, rfl, rfl⟩
    simp [Leaves, settle, results, Try.results14, go_sem, c0, c1, c2, c3, c4]
    exact .inr ⟨by unfold dec; rw [HD.out], rfl, below_err (below_set4 HB.out (Nat.le_refl _) _ _ _ _) (by omega) _⟩
end Go.Proofs.Ytihllbblehjhlaa
