/-
  Package proxy: a bundle of blocks; operations of drawn regions over keys and capsules; the locked numbers.
-/
import Derived.Test.YteigldfdaciopaaGreatDoorLf
import Derived.Test.YteigldfdaciopaaGreatDoorDj
namespace Go.Proofs.YteigldfdaciopaaGreatDoor
open Go.RowKit
set_option linter.unusedVariables false
set_option linter.unusedSimpArgs false

/-- Blocks with these cells; what lay there before is as it was. -/
structure PX (w0 : World) (L : List (Nat × TypeId × Array Value)) (W : World) : Prop where
  below : Below w0.heap.size w0 W
  tab : Tab W
  blks : ∀ p ∈ L, CB W p.1 p.2.1 p.2.2
variable {w0 w w' : World} {L : List (Nat × TypeId × Array Value)}
theorem PX.start (hT : Tab w) : PX w [] w := ⟨Below.refl _ _, hT, fun _ h => by cases h⟩
theorem PX.call (h : PX w0 L w) (hb : Below w.heap.size w w') : PX w0 L w' :=
  ⟨h.below.trans (hb.mono h.below.size), h.tab.below hb h.tab.lt, fun p hp => (h.blks p hp).call hb⟩
theorem PX.blk (h : PX w0 L w) (g : Nat) (T : TypeId) (cs : Array Value) (hm : (g, T, cs) ∈ L) : CB w g T cs := h.blks _ hm
theorem PX.drew (h : PX w0 L w) : PX w0 L w.drew := h.call (Below.refl _ _).drew
theorem PX.put (h : PX w0 L w) {g : Nat} {T : TypeId} {cs : Array Value} (hc : CB w g T cs) : PX w0 ((g, T, cs) :: L) w :=
  ⟨h.below, h.tab, fun p hp => by
    rcases List.mem_cons.1 hp with rfl | hp
    · exact hc
    · exact h.blks p hp⟩
theorem PX.add (h : PX w0 L w) (T : TypeId) (cs : Array Value) (g : Nat) (hg : g = w.heap.size) : PX w0 ((g, T, cs) :: L) (w.alloc (.cells cs T)) :=
  (h.call ((Below.refl _ _).alloc (Nat.le_refl _) _)).put (hg ▸ CB.new w T cs)
theorem PX.stored (h : PX w0 L w) (T : TypeId) (old cs : Array Value) (h1 : w'.heap[w.heap.size]? = some (.cells cs T (0, 0))) (hg : (w.alloc (.cells old T)).grownBy w' (some w.heap.size)) : PX w0 ((w.heap.size, T, cs) :: L) w' :=
  (h.call (grown_below ((Below.refl _ _).alloc (Nat.le_refl _) _) hg (Nat.le_refl _) (by simp))).put h1

theorem loadK (w : World) (g o : Nat) (l : List UInt8) (hl : l.length = 32) (h : w.rangeAt g o (l.map bv)) : (Instr.loadAt 23 (.pointer (some ⟨g, o, none⟩))).run Tryz.prog w = .ok (.agg (bvA l)) w := by
  have := run_loadAt_mid (P := Tryz.prog) w g o 23 (l.map bv) _ h key_und rfl (key_szl l hl)
  exact this
/-- A composite literal in a drawn region. -/
theorem exec_built {P : Program} {o : Oper} {a : Act} {w : World} (t : TypeId) (parts : Array (Nat × Operand)) (ho : o.op = .build t parts) (vals : List (Nat × Value)) (hv : (parts.map fun (i, x) => (i, a.eval x)).toList = vals)
    (cells : Array Value) (hc : P.built t vals = some cells) : (execOp a.eval o).run P w = .ok (.value (.agg cells)) w := by
  have h := run_build (P := P) w t (parts.map fun (i, x) => (i, a.eval x)) cells (by rw [hv]; exact hc)
  unfold execOp
  simp only [ho, Sem.run_bind, Sem.run_pure, h, Result.andThen_ok]
theorem wp_allocKy {o : Oper} {a : Act} {w : World} {K : Act → World → Prop} {Q : Exit → Act → World → Prop} (ho : o.op = .alloc 23)
    (h : ∀ w' g, BB w' g 23 kZ → w.heap.size ≤ g → Below w.heap.size w w' → K (a.put o.dst (.pointer (some ⟨g, 0, none⟩))) w') : o.wp Tryz.prog a w K Q := by
  have hh := h (w.alloc (.cells (bvA kZ) 23)) w.heap.size (BB.new w _ _) (Nat.le_refl _) ((Below.refl _ _).alloc (Nat.le_refl _) _)
  unfold Oper.wp execOp
  have hr : (Instr.alloc 23 true (.tuple #[])).run Tryz.prog w = .ok (.pointer (some ⟨w.heap.size, 0, none⟩)) (w.alloc (.cells (bvA kZ) 23)) := by kernel_rfl
  simp only [ho, Sem.run_bind, Sem.run_pure, Result.andThen_ok, hr]
  exact hh
theorem locking_ex (r : Int) (w : World) :
    Calls Tryz.prog 27 #[.int .i64 r] w fun e w' => ∃ g, e = .returned (lockV g) ∧ CB w' g 3 #[.int .i64 r] ∧ Below w.heap.size w w' :=
  (locking_any r w).mono fun e w' ⟨h1, h2, h3⟩ => ⟨_, h1, h2, h3⟩
theorem opening_ex (x a : Int) (w : World) :
    Calls Tryz.prog 39 #[.int .i64 x, .int .i64 a] w fun e w' => ∃ ga gx, e = .returned (openV ga gx) ∧ CB w' ga 3 #[.int .i64 a] ∧ CB w' gx 3 #[.int .i64 x] ∧ Below w.heap.size w w' :=
  (opening_any x a w).mono fun e w' ⟨h1, h2, h3, h4⟩ => ⟨_, _, h1, h3, h2, h4⟩

/-- Both exponents of a lock; the capsule. -/
def lkR (S : List UInt8) : Nat := scS S ⟨#[108, 111, 99, 107]⟩
def lkM (S : List UInt8) : Nat := scS S ⟨#[109, 97, 115, 107]⟩
theorem lkR_key (S : List UInt8) : PkQ (lkR S) := scS_bd _ _
theorem lkR_lt (S : List UInt8) : lkR S < 2305843009213688669 := (scS_bd _ _).2
theorem lkM_lt (S : List UInt8) : lkM S < 2305843009213688669 := (scS_bd _ _).2
def lkX (S K : List UInt8) : List UInt8 := kxor K (pmS ((4 ^ lkM S % 4611686018427377339 : Nat) : Int))
theorem lkX_len (S : List UInt8) {K : List UInt8} (h : K.length = 32) : (lkX S K).length = 32 := kxor_len h (pmS_len _)
theorem lkB_eq (S : List UInt8) : (4 ^ lkM S % 4611686018427377339) * (4 ^ lkR S % 4611686018427377339) % 4611686018427377339 = lkB (lkR S) (lkM S) := rfl
theorem zero_cap (W : World) : (zeroValue 25).run Tryz.prog W = .ok (.agg (capA 0 0 kZ)) W := by kernel_rfl
theorem zero_ky (W : World) : (zeroValue 23).run Tryz.prog W = .ok (.agg (bvA kZ)) W := by kernel_rfl
theorem KB1 {w : World} {g : Nat} {T : TypeId} {v : Value} (h : CB w g T #[v]) : w.cell? ⟨g, 0, none⟩ = some v := h.cell 0
theorem rdn1 {w : World} {g : Nat} {a : Int} (h : CB w g 3 #[.int .i64 a]) : RdN w g [a] :=
  ⟨h.lt, fun j hj => by
    have : j = 0 := by simp at hj; exact hj
    subst this; exact h.cell 0⟩
theorem rdn2 {w : World} {g : Nat} {a b : Int} (h : CB w g 3 #[.int .i64 a, .int .i64 b]) : RdN w g [a, b] :=
  ⟨h.lt, fun j hj => by
    have : j = 0 ∨ j = 1 := by simp at hj; omega
    rcases this with rfl | rfl
    · exact h.cell 0
    · exact h.cell 1⟩
end Go.Proofs.YteigldfdaciopaaGreatDoor
