/-
  Package sign: Verify.
-/
import Derived.Test.YtgpcbckpfnhhcaaDoorSv
namespace Go.Proofs.YtgpcbckpfnhhcaaDoor
open Go.RowKit
set_option linter.unusedVariables false
set_option linter.unusedSimpArgs false

set_option maxRecDepth 100000 in
set_option maxHeartbeats 2000000 in
theorem verify_any (pub r s : Int) (a : Option Addr) (cap : Nat) (l : List UInt8) (w : World) (hT : Tab w) (hl : RdB w.heap.size w a l) (hcap : l.length ≤ cap) (hc2 : cap ≤ maxLen) (hnil : a = none → cap = 0) (hn : l.length ≤ 70368744177000) :
    Calls Tryd.prog 16 #[.int .i64 pub, .slice a l.length cap, sigV r s] w fun e w' => e = .returned (.bool (verD pub l r s)) ∧ Below w.heap.size w w' := by
  rw [verD_eq]
  have hA : ∀ W, Below w.heap.size w W → ∀ g, W.cell? ⟨g, 0, none⟩ = some (.func (.func 41) #[claimV pub (.slice a l.length cap) r s] #[]) → W.cell? ⟨g, 1, none⟩ = some (.func (.func 42) #[claimV pub (.slice a l.length cap) r s] #[]) →
      W.cell? ⟨g, 2, none⟩ = some (.func (.func 43) #[claimV pub (.slice a l.length cap) r s] #[]) → Calls Tryd.prog 40 #[.slice (some ⟨g, 0, none⟩) 3 3] W fun e w' => e = .returned (.bool ((elB pub && elB r) && (scal s && balB pub.toNat r.toNat s.toNat l))) ∧ Below w.heap.size w w' := fun W hB g h0 h1 h2 =>
    (all_any _ (elB pub && elB r) (scal s) (balB pub.toNat r.toNat s.toNat l) g W h0 h1 h2 (fun w' _ => hasElements_any pub a _ cap r s w') (fun _ w' _ => hasScalar_any pub a _ cap r s w')
      (fun hb0 hb1 w' h => by
        rw [Bool.and_eq_true, elB_iff, elB_iff] at hb0
        have hB' := hB.trans (h.mono hB.size)
        exact balanced_all pub r s hb0.1 hb0.2 (scal_iff.1 hb1) a cap l w' (hT.below hB' hT.lt) ((hl.below hB').mono hB'.size) hcap hc2 hnil hn)).mono fun e w' ⟨he, hb⟩ => ⟨he, hB.trans (hb.mono hB.size)⟩
  have HA := Lib.hid hA
  clear hA hT hl hnil hc2 hcap hn
  generalize ((elB pub && elB r) && (scal s && balB pub.toNat r.toNat s.toNat l)) = bb at *
  generalize l.length = q at *
  unfold sigV
  have HB : Below w.heap.size w (((w.alloc (.cells #[.int .i64 r, .int .i64 s] 30)).alloc (.cells #[.int .i64 pub, .slice a q cap, .int .i64 r, .int .i64 s] 45)).alloc (.cells #[.func (.func 41) #[claimV pub (.slice a q cap) r s] #[], .func (.func 42) #[claimV pub (.slice a q cap) r s] #[], .func (.func 43) #[claimV pub (.slice a q cap) r s] #[]] 23)) :=
    (((Below.refl _ _).alloc (Nat.le_refl _) _).alloc (by simp) _).alloc (by simp; omega) _
  have hg := fun i => cell_of_row _ _ i _ _ _ (heap_alloc_new ((w.alloc (.cells #[.int .i64 r, .int .i64 s] 30)).alloc (.cells #[.int .i64 pub, .slice a q cap, .int .i64 r, .int .i64 s] 45)) (.cells #[.func (.func 41) #[claimV pub (.slice a q cap) r s] #[], .func (.func 42) #[claimV pub (.slice a q cap) r s] #[], .func (.func 43) #[claimV pub (.slice a q cap) r s] #[]] 23))
  rw [show ((w.alloc (.cells #[.int .i64 r, .int .i64 s] 30)).alloc (.cells #[.int .i64 pub, .slice a q cap, .int .i64 r, .int .i64 s] 45)).heap.size = w.heap.size + 1 + 1 by simp] at hg
  have HG := Lib.hid hg
  clear hg
  go_enter Tryd.func16, Tryd.ntmps16
  go_wp2_with (go_at_call 40; refine (HA.out _ HB _ (HG.out 0) (HG.out 1) (HG.out 2)).mono ?_; rintro e w3 ⟨rfl, hb⟩)
  go_ret
  exact ⟨rfl, hb⟩
end Go.Proofs.YtgpcbckpfnhhcaaDoor
