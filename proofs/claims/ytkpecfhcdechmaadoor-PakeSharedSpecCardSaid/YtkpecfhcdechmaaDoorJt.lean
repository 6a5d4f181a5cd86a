/-
  The statements of pake: the digest of a key and a byte, made in a drawn region.
-/
import Derived.Test.YtkpecfhcdechmaaDoorJs
namespace Go.Proofs.YtkpecfhcdechmaaDoor
open Go.RowKit
set_option linter.unusedVariables false
set_option linter.unusedSimpArgs false

theorem bb_grew {w w' : World} {v v' : Value} {g : Nat} {T : TypeId} {l : List UInt8} (h : BB w g T l) (hg : Grew w v w' v') (hne : v.ownBlock ≠ some g) : BB w' g T l := (hg.grown.block g h.lt (Ne.symm hne)).trans h
/-- A slice of one byte, at a step of a drawn region. -/
theorem wp_oneB {o : Oper} {a : Act} {w : World} {K : Act → World → Prop} {Q : Exit → Act → World → Prop} {x : Operand} (ho : o.op = .buildSlice 38 1 #[(0, x)]) (c : UInt8) (hx : a.eval x = bv c) (B : Nat) (hB : B ≤ w.heap.size)
    (h : ∀ w' v, OwnB B w' v [c] → (∀ k, v.ownBlock = some k → w.heap.size ≤ k) → Below w.heap.size w w' → K (a.put o.dst v) w') : o.wp Tryd.prog a w K Q := by
  have hh := h _ _ (OwnB.built c hB) (fun k hk => by have e : some w.heap.size = some k := hk; injection e with e; omega) ((Below.refl _ _).alloc (Nat.le_refl _) _)
  unfold Oper.wp execOp
  have hr : (Instr.buildSlice 38 1 #[(0, bv c)]).run Tryd.prog w = .ok (.slice (some ⟨w.heap.size, 0, none⟩) 1 1) (w.alloc (.cells #[bv c] 5)) := by kernel_rfl
  simp only [ho, Sem.run_bind, Sem.run_pure, Result.andThen_ok, List.map_toArray, List.map_cons, List.map_nil, hx, hr]
  exact hh
/-- What such a region knows, by what has come up: the empty slice, the key, the byte, both, the digest, its block, the store. -/
structure PrK (w0 : World) (K : List UInt8) (c : UInt8) (D : List UInt8) (b0 b2 b7 b8 b9 b10 b11 : Bool) (v0 v2 v7 v8 v9 v10 : Value) (W : World) : Prop where
  below : Below w0.heap.size w0 W
  ord : (b2 = true → b0 = true) ∧ (b8 = true → b2 = true) ∧ (b8 = true → b7 = true) ∧ (b9 = true → b8 = true) ∧ (b11 = true → b9 = true) ∧ (b11 = true → b10 = true)
  a0 : b0 = true → b2 = false → OwnB w0.heap.size W v0 []
  a2 : b2 = true → b8 = false → OwnB w0.heap.size W v2 K
  a7 : b7 = true → b8 = false → OwnB w0.heap.size W v7 [c]
  a8 : b8 = true → b9 = false → OwnB w0.heap.size W v8 (K ++ [c])
  h9 : b9 = true → v9 = .agg (bvA D)
  s07 : b0 = true → b2 = false → b7 = true → b8 = false → ∀ k, v7.ownBlock = some k → v0.ownBlock ≠ some k
  h10 : b10 = true → ∃ g, v10 = .pointer (some ⟨g, 0, none⟩) ∧ w0.heap.size ≤ g ∧ g < W.heap.size ∧ BB W g 31 (if b11 then D else zK) ∧ (b0 = true → b2 = false → v0.ownBlock ≠ some g) ∧ (b2 = true → b8 = false → v2.ownBlock ≠ some g)
section
variable {w0 : World} {K : List UInt8} {c : UInt8} {D : List UInt8} {b0 b2 b7 b8 b9 b10 b11 : Bool} {v0 v2 v7 v8 v9 v10 v : Value} {W W' : World}
theorem PrK.start (w0 : World) : PrK w0 K c D false false false false false false false v0 v2 v7 v8 v9 v10 w0 := by
  refine ⟨Below.refl _ _, ?_, ?_, ?_, ?_, ?_, ?_, ?_, ?_⟩
  · simp
  all_goals (intro h; cases h)
theorem notb {a b : Bool} (h : a = true → b = true) (hb : b = false) : a = false := by cases a <;> simp_all
theorem own_lt {B : Nat} {w : World} {v : Value} {l : List UInt8} (h : OwnB B w v l) {g : Nat} (e : v.ownBlock = some g) : g < w.heap.size := (World.ownsRow.lt h g e).2
theorem PrK.call (h : PrK w0 K c D b0 b2 b7 b8 b9 b10 b11 v0 v2 v7 v8 v9 v10 W) (hb : Below W.heap.size W W') : PrK w0 K c D b0 b2 b7 b8 b9 b10 b11 v0 v2 v7 v8 v9 v10 W' :=
  ⟨h.below.trans (hb.mono h.below.size), h.ord, fun e f => (h.a0 e f).below hb, fun e f => (h.a2 e f).below hb, fun e f => (h.a7 e f).below hb, fun e f => (h.a8 e f).below hb, h.h9, h.s07,
    fun e => by obtain ⟨g, e1, e2, e3, e4, e5, e6⟩ := h.h10 e; exact ⟨g, e1, e2, Nat.lt_of_lt_of_le e3 hb.size, e4.below hb e3, e5, e6⟩⟩
theorem PrK.set0 (h : PrK w0 K c D b0 b2 b7 b8 b9 b10 b11 v0 v2 v7 v8 v9 v10 W) (e : b0 = false) (ho : OwnB w0.heap.size W' v []) (hf : ∀ k, v.ownBlock = some k → W.heap.size ≤ k) (hb : Below W.heap.size W W') : PrK w0 K c D true b2 b7 b8 b9 b10 b11 v v2 v7 v8 v9 v10 W' := by
  have h2 := notb h.ord.1 e
  have h8 := notb h.ord.2.1 h2
  have k := h.call hb
  refine ⟨k.below, ⟨fun _ => rfl, h.ord.2⟩, fun _ _ => ho, k.a2, k.a7, k.a8, k.h9, fun _ _ f7 f8 q hq hq2 => ?_, fun f => ?_⟩
  · have := own_lt (h.a7 f7 f8) hq
    have := hf q hq2
    omega
  · obtain ⟨g, e1, e2, e3, -, -, -⟩ := h.h10 f
    obtain ⟨g', e1', e2', e3', e4, e5, e6⟩ := k.h10 f
    obtain rfl : g' = g := by rw [e1] at e1'; injection e1' with e1'; injection e1' with e1'; injection e1' with e1'; exact e1'.symm
    exact ⟨g', e1, e2, e3', e4, fun _ _ hq => by have := hf _ hq; omega, e6⟩
theorem PrK.set2 (h : PrK w0 K c D b0 b2 b7 b8 b9 b10 b11 v0 v2 v7 v8 v9 v10 W) (e : b2 = false) (e0 : b0 = true) (ho : OwnB w0.heap.size W' v K) (hg : Grew W v0 W' v) : PrK w0 K c D b0 true b7 b8 b9 b10 b11 v0 v v7 v8 v9 v10 W' := by
  have h8 := notb h.ord.2.1 e
  have h9 := notb h.ord.2.2.2.1 h8
  refine ⟨h.below.trans (hg.below (fun r hr => (h.a0 e0 e).base r hr) h.below.size), ⟨fun _ => e0, fun _ => rfl, h.ord.2.2⟩, (fun _ f => by cases f), fun _ _ => ho, fun f7 f8 => (h.a7 f7 f8).grew hg (h.s07 e0 e f7 f8), (fun f => by rw [h8] at f; cases f), h.h9, (fun _ f => by cases f), fun f => ?_⟩
  obtain ⟨g, e1, e2, e3, e4, e5, e6⟩ := h.h10 f
  exact ⟨g, e1, e2, Nat.lt_of_lt_of_le e3 hg.size, bb_grew e4 hg (e5 e0 e), (fun _ f => by cases f), fun _ _ => hg.ne (e5 e0 e) e3⟩
theorem PrK.set7 (h : PrK w0 K c D b0 b2 b7 b8 b9 b10 b11 v0 v2 v7 v8 v9 v10 W) (e : b7 = false) (ho : OwnB w0.heap.size W' v [c]) (hf : ∀ k, v.ownBlock = some k → W.heap.size ≤ k) (hb : Below W.heap.size W W') : PrK w0 K c D b0 b2 true b8 b9 b10 b11 v0 v2 v v8 v9 v10 W' := by
  have k := h.call hb
  refine ⟨k.below, ⟨h.ord.1, h.ord.2.1, fun _ => rfl, h.ord.2.2.2⟩, k.a0, k.a2, fun _ _ => ho, k.a8, k.h9, fun f0 f2 _ _ q hq hq2 => ?_, k.h10⟩
  have := own_lt (h.a0 f0 f2) hq2
  have := hf q hq
  omega
theorem PrK.set8 (h : PrK w0 K c D b0 b2 b7 b8 b9 b10 b11 v0 v2 v7 v8 v9 v10 W) (e : b8 = false) (e2 : b2 = true) (e7 : b7 = true) (ho : OwnB w0.heap.size W' v (K ++ [c])) (hg : Grew W v2 W' v) : PrK w0 K c D b0 b2 b7 true b9 b10 b11 v0 v2 v7 v v9 v10 W' := by
  refine ⟨h.below.trans (hg.below (fun r hr => (h.a2 e2 e).base r hr) h.below.size), ⟨h.ord.1, fun _ => e2, fun _ => e7, fun _ => rfl, h.ord.2.2.2.2⟩, (fun _ f => by rw [e2] at f; cases f), (fun _ f => by cases f), (fun _ f => by cases f), fun _ _ => ho, h.h9, (fun _ _ _ f => by cases f), fun f => ?_⟩
  obtain ⟨g, e1, e2', e3, e4, e5, e6⟩ := h.h10 f
  exact ⟨g, e1, e2', Nat.lt_of_lt_of_le e3 hg.size, bb_grew e4 hg (e6 e2 e), (fun _ f => by rw [e2] at f; cases f), (fun _ f => by cases f)⟩
theorem PrK.set9 (h : PrK w0 K c D b0 b2 b7 b8 b9 b10 b11 v0 v2 v7 v8 v9 v10 W) (e8 : b8 = true) (hb : Below W.heap.size W W') : PrK w0 K c D b0 b2 b7 b8 true b10 b11 v0 v2 v7 v8 (.agg (bvA D)) v10 W' := by
  have k := h.call hb
  exact ⟨k.below, ⟨h.ord.1, h.ord.2.1, h.ord.2.2.1, fun _ => e8, fun _ => rfl, h.ord.2.2.2.2.2⟩, k.a0, k.a2, k.a7, (fun _ f => by cases f), fun _ => rfl, k.s07, k.h10⟩
theorem PrK.set10 (h : PrK w0 K c D b0 b2 b7 b8 b9 b10 b11 v0 v2 v7 v8 v9 v10 W) (e : b10 = false) {g : Nat} (hn : BB W' g 31 zK) (hge : W.heap.size ≤ g) (hb : Below W.heap.size W W') : PrK w0 K c D b0 b2 b7 b8 b9 true b11 v0 v2 v7 v8 v9 (.pointer (some ⟨g, 0, none⟩)) W' := by
  have h11 := notb h.ord.2.2.2.2.2 e
  have k := h.call hb
  refine ⟨k.below, ⟨h.ord.1, h.ord.2.1, h.ord.2.2.1, h.ord.2.2.2.1, h.ord.2.2.2.2.1, fun _ => rfl⟩, k.a0, k.a2, k.a7, k.a8, k.h9, k.s07, fun _ => ⟨g, rfl, Nat.le_trans h.below.size hge, hn.lt, by rw [h11]; exact hn, fun f0 f2 hq => ?_, fun f2 f8 hq => ?_⟩⟩
  · have := own_lt (h.a0 f0 f2) hq; omega
  · have := own_lt (h.a2 f2 f8) hq; omega
theorem PrK.h11 (h : PrK w0 K c D b0 b2 b7 b8 b9 b10 b11 v0 v2 v7 v8 v9 v10 W) (e : b11 = false) (e10 : b10 = true) : ∃ g, v10 = .pointer (some ⟨g, 0, none⟩) ∧ w0.heap.size ≤ g ∧ BB W g 31 zK := by
  obtain ⟨g, e1, e2, e3, e4, e5, e6⟩ := h.h10 e10
  rw [e] at e4
  exact ⟨g, e1, e2, e4⟩
theorem PrK.put11 (h : PrK w0 K c D b0 b2 b7 b8 b9 b10 b11 v0 v2 v7 v8 v9 v10 W) (e9 : b9 = true) (e10 : b10 = true) {g : Nat} (eg : v10 = .pointer (some ⟨g, 0, none⟩)) (hge : w0.heap.size ≤ g) (hn : BB W' g 31 D) (hg : W.grownBy W' (some g)) : PrK w0 K c D b0 b2 b7 b8 b9 b10 true v0 v2 v7 v8 v9 v10 W' := by
  have e8 := h.ord.2.2.2.1 e9
  have e2 := h.ord.2.1 e8
  refine ⟨grown_below h.below hg hge h.below.size, ⟨h.ord.1, h.ord.2.1, h.ord.2.2.1, h.ord.2.2.2.1, fun _ => e9, fun _ => e10⟩, (fun _ f => by rw [e2] at f; cases f), (fun _ f => by rw [e8] at f; cases f), (fun _ f => by rw [e8] at f; cases f), (fun _ f => by rw [e9] at f; cases f), h.h9, (fun _ _ _ f => by rw [e8] at f; cases f), fun _ => ⟨g, eg, hge, hn.lt, hn, (fun _ f => by rw [e2] at f; cases f), (fun _ f => by rw [e8] at f; cases f)⟩⟩
theorem PrK.done (h : PrK w0 K c D b0 b2 b7 b8 b9 b10 b11 v0 v2 v7 v8 v9 v10 W) (e10 : b10 = true) (e : b11 = true) : ∃ g, v10 = .pointer (some ⟨g, 0, none⟩) ∧ w0.heap.size ≤ g ∧ BB W g 31 D ∧ Below w0.heap.size w0 W := by
  obtain ⟨g, e1, e2, e3, e4, e5, e6⟩ := h.h10 e10
  rw [e] at e4
  exact ⟨g, e1, e2, e4, h.below⟩
end
theorem PB.put {w0 w : World} {S : List (Nat × Int × Int × Int)} {L : List (Nat × TypeId × List UInt8)} (h : PB w0 S L w) {g : Nat} {T : TypeId} {K : List UInt8} (hb : BB w g T K) : PB w0 S ((g, T, K) :: L) w :=
  ⟨h.below, h.tab, h.sides, fun p hp => by
    rcases List.mem_cons.1 hp with rfl | hp
    · exact hb
    · exact h.blks p hp⟩
theorem PB.drop {w0 w : World} {S : List (Nat × Int × Int × Int)} {L : List (Nat × TypeId × List UInt8)} {x : Nat × TypeId × List UInt8} (h : PB w0 S (x :: L) w) : PB w0 S L w :=
  ⟨h.below, h.tab, h.sides, fun p hp => h.blks p (List.mem_cons_of_mem _ hp)⟩
end Go.Proofs.YtkpecfhcdechmaaDoor
