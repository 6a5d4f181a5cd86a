/-
  The reference of vector: With.
-/
import Derived.Test.YtfdfaajjlangjaaMj
namespace Go.Proofs.Ytfdfaajjlangjaa
open Go.RowKit
set_option linter.unusedVariables false
set_option linter.unusedSimpArgs false

set_option maxRecDepth 100000 in
set_option maxHeartbeats 1000000 in
theorem rWith12_ok (a : Option Addr) (cap : Nat) (l : List Dt) (d : Dt) (h1 : okV l) (h2 : dotP d) (hn1 : l.length ≤ 600) (w : World) (hl : RdDt w.heap.size w a l) :
    Calls Try.prog 13 #[.slice a l.length cap, dtV d] w fun e w' => ∃ v, e = .returned (.tuple #[v, .int .i64 0]) ∧ OwnDt w.heap.size w' v (wiV l d) ∧ Below w.heap.size w w' := by
  unfold dtV
  have K1 := Lib.hid (fun W (h : Below w.heap.size w W) => rCheck12_any a cap l W (hl.call h))
  rw [chV_ok h1] at K1
  have K2 := Lib.hid (fun W => rIsDot12_any d W)
  unfold dtV at K2
  rw [decide_eq_true h2] at K2
  have K3 := Lib.hid (fun W g (h : Below w.heap.size w W) (hr : RdDt W.heap.size W (some ⟨g, 0, none⟩) [d]) => rJoin12_ok a cap l (some ⟨g, 0, none⟩) 1 [d] h1 (okV_one h2) hn1 (by simp) W (hl.call h) hr)
  have K3' : Hid (∀ (W : World) (g : Nat), Below w.heap.size w W → RdDt W.heap.size W (some ⟨g, 0, none⟩) [d] → Calls Try.prog 22 #[.slice a l.length cap, .slice (some ⟨g, 0, none⟩) 1 1] W fun e w' => ∃ v, e = .returned (.tuple #[v, .int .i64 0]) ∧ OwnDt W.heap.size w' v (wiV l d) ∧ Below W.heap.size W w') := Lib.hid K3.out
  obtain ⟨wb, hwb⟩ : ∃ wb, wb = w.alloc (.cells #[.int .i64 d.1, .int .i64 d.2] 24) := ⟨_, rfl⟩
  have HB : Hid (Below w.heap.size w wb) := Lib.hid (by rw [hwb]; exact (Below.refl _ _).alloc (Nat.le_refl _) _)
  have HD : Hid (DB wb w.heap.size d) := Lib.hid (by rw [hwb]; exact DB.new w d)
  have HWB : Hid (w.alloc (.cells #[.int .i64 d.1, .int .i64 d.2] 24) = wb) := Lib.hid hwb.symm
  obtain ⟨Z, hZ⟩ := exEqD (wiV l d)
  rw [hZ] at K3' ⊢
  clear hwb hl h1 h2 hn1 hZ K3
  generalize l.length = n at *
  go_enter Try.func13, Try.ntmps13
  go_wp2_with fail
  rw [HWB.out]
  clear HWB
  with_reducible refine (K1.out _ HB.out).mono ?_
  rintro e w1 ⟨rfl, hb⟩
  have HB1 := nextB HB hb
  have HD1 := Lib.hid (HD.out.call hb)
  clear hb
  have c0 := HD1.out.cell0
  have c1 := HD1.out.cell1
  go_wp2_with fail
  clear c0 c1
  with_reducible refine (K2.out _).mono ?_
  rintro e w2 ⟨rfl, hb⟩
  have HB2 := nextB HB1 hb
  have HD2 := Lib.hid (HD1.out.call hb)
  clear hb
  have c0 := HD2.out.cell0
  have c1 := HD2.out.cell1
  go_wp2_with fail
  clear c0 c1
  have HB3 : Hid (Below w.heap.size w (w2.alloc (.cells #[.int .i64 d.1, .int .i64 d.2] 24))) := Lib.hid (HB2.out.alloc HB2.out.size _)
  with_reducible refine (K3'.out _ w2.heap.size HB3.out (by rw [World.size_alloc]; exact RdDt.one d)).mono ?_
  rintro e w4 ⟨v, rfl, ho, hb⟩
  have HO := Lib.hid ho
  have HB4 := nextB HB3 hb
  clear ho hb
  go_wp2_with fail
  go_ret2
  exact ⟨_, rfl, HO.out.mono (by have := HB3.out.size; exact this), HB4.out⟩
set_option maxRecDepth 100000 in
theorem rWith12_bad (a : Option Addr) (cap : Nat) (l : List Dt) (d : Dt) (h : ¬ (okV l ∧ dotP d)) (w : World) (hl : RdDt w.heap.size w a l) :
    Calls Try.prog 13 #[.slice a l.length cap, dtV d] w fun e w' => e = .returned (.tuple #[.slice none 0 0, .int .i64 120]) ∧ Below w.heap.size w w' := by
  unfold dtV
  have K1 := Lib.hid (fun W (h : Below w.heap.size w W) => rCheck12_any a cap l W (hl.call h))
  have K2 := Lib.hid (fun W => rIsDot12_any d W)
  unfold dtV at K2
  obtain ⟨wb, hwb⟩ : ∃ wb, wb = w.alloc (.cells #[.int .i64 d.1, .int .i64 d.2] 24) := ⟨_, rfl⟩
  have HB : Hid (Below w.heap.size w wb) := Lib.hid (by rw [hwb]; exact (Below.refl _ _).alloc (Nat.le_refl _) _)
  have HD : Hid (DB wb w.heap.size d) := Lib.hid (by rw [hwb]; exact DB.new w d)
  have HWB : Hid (w.alloc (.cells #[.int .i64 d.1, .int .i64 d.2] 24) = wb) := Lib.hid hwb.symm
  by_cases h1 : okV l
  · rw [chV_ok h1] at K1
    rw [decide_eq_false (fun h2 => h ⟨h1, h2⟩)] at K2
    clear hwb hl h h1
    generalize l.length = n at *
    go_enter Try.func13, Try.ntmps13
    go_wp2_with fail
    rw [HWB.out]
    clear HWB
    with_reducible refine (K1.out _ HB.out).mono ?_
    rintro e w1 ⟨rfl, hb⟩
    have HB1 := nextB HB hb
    have HD1 := Lib.hid (HD.out.call hb)
    clear hb
    have c0 := HD1.out.cell0
    have c1 := HD1.out.cell1
    go_wp2_with fail
    clear c0 c1
    with_reducible refine (K2.out _).mono ?_
    rintro e w2 ⟨rfl, hb⟩
    have HB2 := nextB HB1 hb
    clear hb
    go_wp2_with fail
    go_ret2
    exact ⟨rfl, HB2.out⟩
  · rw [chV_bad h1] at K1
    clear hwb hl h h1
    generalize l.length = n at *
    go_enter Try.func13, Try.ntmps13
    go_wp2_with fail
    rw [HWB.out]
    clear HWB
    with_reducible refine (K1.out _ HB.out).mono ?_
    rintro e w1 ⟨rfl, hb⟩
    have HB1 := nextB HB hb
    clear hb
    go_wp2_with fail
    go_ret2
    exact ⟨rfl, HB1.out⟩
end Go.Proofs.Ytfdfaajjlangjaa
