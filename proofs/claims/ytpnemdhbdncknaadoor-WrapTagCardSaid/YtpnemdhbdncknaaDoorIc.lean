/-
  What a walk of wrap's statements knows of the world: the tables, boxes of keys, slices of bytes that can be read; only new blocks have turned.
-/
import Derived.Test.YtpnemdhbdncknaaDoorIb
namespace Go.Proofs.YtpnemdhbdncknaaDoor
open Go.RowKit
set_option linter.unusedVariables false
set_option linter.unusedSimpArgs false

structure WrB (w : World) (ks : List (Nat × List UInt8)) (rs : List (Value × List UInt8)) (W : World) : Prop where
  below : Below w.heap.size w W
  tab : Tab W
  key : ∀ p ∈ ks, BB W p.1 23 p.2
  rd : ∀ p ∈ rs, RdV W p.1 p.2
theorem WrB.start {w : World} (hT : Tab w) : WrB w [] [] w := ⟨Below.refl _ _, hT, fun _ h => (by cases h), fun _ h => (by cases h)⟩
theorem WrB.call {w W W' : World} {ks : List (Nat × List UInt8)} {rs : List (Value × List UInt8)} (h : WrB w ks rs W) (hb : Below W.heap.size W W') : WrB w ks rs W' :=
  ⟨h.below.trans (hb.mono h.below.size), h.tab.below hb h.tab.lt, fun p hp => (h.key p hp).below hb (h.key p hp).lt, fun p hp => (h.rd p hp).call hb⟩
theorem WrB.add {w W : World} {ks : List (Nat × List UInt8)} {rs : List (Value × List UInt8)} (h : WrB w ks rs W) {v : Value} {l : List UInt8} (hr : RdV W v l) : WrB w ks ((v, l) :: rs) W :=
  ⟨h.below, h.tab, h.key, fun p hp => by
    rcases List.mem_cons.1 hp with rfl | hp
    · exact hr
    · exact h.rd p hp⟩
theorem WrB.addK {w W : World} {ks : List (Nat × List UInt8)} {rs : List (Value × List UInt8)} (h : WrB w ks rs W) {g : Nat} {l : List UInt8} (hr : BB W g 23 l) : WrB w ((g, l) :: ks) rs W :=
  ⟨h.below, h.tab, fun p hp => by
    rcases List.mem_cons.1 hp with rfl | hp
    · exact hr
    · exact h.key p hp, h.rd⟩
/-- A key in a new box. -/
theorem WrB.box {w W : World} {ks : List (Nat × List UInt8)} {rs : List (Value × List UInt8)} (h : WrB w ks rs W) (l : List UInt8) : WrB w ((W.heap.size, l) :: ks) rs (W.alloc (.cells (bvA l) 23)) :=
  (h.call ((Below.refl _ _).alloc (Nat.le_refl _) _)).addK (BB.new W _ _)
theorem WrB.get {w W : World} {ks : List (Nat × List UInt8)} {rs : List (Value × List UInt8)} (h : WrB w ks rs W) (v : Value) (l : List UInt8) (hm : (v, l) ∈ rs) : RdV W v l := h.rd _ hm
theorem WrB.getK {w W : World} {ks : List (Nat × List UInt8)} {rs : List (Value × List UInt8)} (h : WrB w ks rs W) (g : Nat) (l : List UInt8) (hm : (g, l) ∈ ks) : BB W g 23 l := h.key _ hm
end Go.Proofs.YtpnemdhbdncknaaDoor
