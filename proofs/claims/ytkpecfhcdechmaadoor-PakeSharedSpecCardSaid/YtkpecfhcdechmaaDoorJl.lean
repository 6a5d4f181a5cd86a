/-
  The statements of pake: what lies in memory on the way (sides, keys, digests); power.
-/
import Derived.Test.YtkpecfhcdechmaaDoorJk
namespace Go.Proofs.YtkpecfhcdechmaaDoor
open Go.RowKit
set_option linter.unusedVariables false
set_option linter.unusedSimpArgs false

/-- Blocks that hold sides, keys and digests; what lay there before is as it was. -/
structure PB (w0 : World) (S : List (Nat × Int × Int × Int)) (L : List (Nat × TypeId × List UInt8)) (W : World) : Prop where
  below : Below w0.heap.size w0 W
  tab : Tab W
  sides : ∀ p ∈ S, CB W p.1 23 #[.int .i64 p.2.1, .int .i64 p.2.2.1, .int .i64 p.2.2.2]
  blks : ∀ p ∈ L, BB W p.1 p.2.1 p.2.2
variable {w0 w w' : World} {S : List (Nat × Int × Int × Int)} {L : List (Nat × TypeId × List UInt8)}
theorem PB.start (hT : Tab w) : PB w [] [] w := ⟨Below.refl _ _, hT, (fun _ h => by cases h), (fun _ h => by cases h)⟩
theorem PB.call (h : PB w0 S L w) (hb : Below w.heap.size w w') : PB w0 S L w' :=
  ⟨h.below.trans (hb.mono h.below.size), h.tab.below hb h.tab.lt, fun p hp => (h.sides p hp).call hb, fun p hp => (h.blks p hp).below hb (h.blks p hp).lt⟩
theorem PB.side (h : PB w0 S L w) (g : Nat) (r c n : Int) (hm : (g, r, c, n) ∈ S) : CB w g 23 #[.int .i64 r, .int .i64 c, .int .i64 n] := h.sides _ hm
theorem PB.blk (h : PB w0 S L w) (g : Nat) (T : TypeId) (K : List UInt8) (hm : (g, T, K) ∈ L) : BB w g T K := h.blks _ hm
theorem PB.alloc (h : PB w0 S L w) (o : Obj) : PB w0 S L (w.alloc o) := h.call ((Below.refl _ _).alloc (Nat.le_refl _) _)
theorem PB.drew (h : PB w0 S L w) : PB w0 S L w.drew := h.call ((Below.refl _ _).drew)
theorem PB.addS (h : PB w0 S L w) (r c n : Int) (g : Nat) (hg : g = w.heap.size) : PB w0 ((g, r, c, n) :: S) L (w.alloc (.cells #[.int .i64 r, .int .i64 c, .int .i64 n] 23)) := by
  have h2 := h.alloc (.cells #[.int .i64 r, .int .i64 c, .int .i64 n] 23)
  refine ⟨h2.below, h2.tab, fun p hp => ?_, h2.blks⟩
  rcases List.mem_cons.1 hp with rfl | hp
  · subst hg; exact CB.new w _ _
  · exact h2.sides p hp
theorem PB.addB (h : PB w0 S L w) (T : TypeId) (K : List UInt8) (g : Nat) (hg : g = w.heap.size) : PB w0 S ((g, T, K) :: L) (w.alloc (.cells (bvA K) T)) := by
  have h2 := h.alloc (.cells (bvA K) T)
  refine ⟨h2.below, h2.tab, h2.sides, fun p hp => ?_⟩
  rcases List.mem_cons.1 hp with rfl | hp
  · subst hg; exact BB.new w _ _
  · exact h2.blks p hp
theorem PB.stored (h : PB w0 S L w) (T : TypeId) (K : List UInt8) (h1 : w'.heap[w.heap.size]? = some (.cells (bvA K) T (0, 0))) (hg : (w.alloc (.cells (bvA zK) T)).grownBy w' (some w.heap.size)) : PB w0 S ((w.heap.size, T, K) :: L) w' := by
  have hb : Below w.heap.size w w' := grown_below ((Below.refl _ _).alloc (Nat.le_refl _) _) hg (Nat.le_refl _) (by simp)
  have h2 := h.call hb
  refine ⟨h2.below, h2.tab, h2.sides, fun p hp => ?_⟩
  rcases List.mem_cons.1 hp with rfl | hp
  · exact h1
  · exact h2.blks p hp

set_option maxRecDepth 100000 in
set_option maxHeartbeats 1600000 in
theorem lpower_any (a x y t : Nat) (ha : IsEl (a : Int)) (hx : x < 2305843009213688669) (hy : y < 2305843009213688669) (ht : t < 2305843009213688669) (w : World) :
    Calls Tryd.prog 25 #[.int .i64 a, .int .i64 x, .int .i64 y, .int .i64 t] w fun e w' => e = .returned (.tuple #[.int .i64 ((a ^ (dif x y * t % 2305843009213688669) % 4611686018427377339 : Nat) : Int), .bool true]) ∧ Below w.heap.size w w' := by
  have k1 := fun w => fSub x y hx hy w
  have k2 := fun w => fMul (dif x y) t (Nat.mod_lt _ (by decide)) ht w
  have k3 := fun w => gExp_ok a (dif x y * t % 2305843009213688669) ha (Nat.mod_lt _ (by decide)) w
  clear ha hx hy ht
  obtain ⟨z, hz⟩ : ∃ z, a ^ (dif x y * t % 2305843009213688669) % 4611686018427377339 = z := ⟨_, rfl⟩
  rw [hz] at k3 ⊢
  obtain ⟨m, hm⟩ : ∃ m, dif x y * t % 2305843009213688669 = m := ⟨_, rfl⟩
  rw [hm] at k2 k3
  obtain ⟨d, hd⟩ : ∃ d, dif x y = d := ⟨_, rfl⟩
  rw [hd] at k1 k2
  clear hz hm hd
  have HB := Below.refl w.heap.size w
  go_enter Tryd.func25, Tryd.ntmps25
  go_wp2_with (first
    | (go_at_call 33; with_reducible refine (k1 _).mono ?_; rintro e w1 ⟨rfl, hb⟩; replace HB := belowNext HB hb; clear hb)
    | (go_at_call 49; with_reducible refine (k2 _).mono ?_; rintro e w1 ⟨rfl, hb⟩; replace HB := belowNext HB hb; clear hb)
    | (go_at_call 29; with_reducible refine (k3 _).mono ?_; rintro e w1 ⟨rfl, hb⟩; replace HB := belowNext HB hb; clear hb))
  go_ret2
  exact ⟨rfl, HB⟩

theorem CB.cells3 {g : Nat} {T : TypeId} {x y z : Value} (h : CB w g T #[x, y, z]) : w.cell? ⟨g, 0, none⟩ = some x ∧ w.cell? ⟨g, 1, none⟩ = some y ∧ w.cell? ⟨g, 2, none⟩ = some z := ⟨h.cell 0, h.cell 1, h.cell 2⟩
end Go.Proofs.YtkpecfhcdechmaaDoor
