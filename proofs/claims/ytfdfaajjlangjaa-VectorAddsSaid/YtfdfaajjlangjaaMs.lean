/-
  Package vector: Join, Meet, Compare, With.
-/
import Derived.Test.YtfdfaajjlangjaaMr
import Derived.Test.YtfdfaajjlangjaaMk
namespace Go.Proofs.Ytfdfaajjlangjaa
open Go.RowKit
set_option linter.unusedVariables false
set_option linter.unusedSimpArgs false

set_option maxRecDepth 100000 in
set_option maxHeartbeats 1000000 in
theorem Join12_ok (a : Option Addr) (cap : Nat) (l : List Dt) (a2 : Option Addr) (cap2 : Nat) (m : List Dt) (h1 : okV l) (h2 : okV m) (hn1 : l.length ≤ 600) (hn2 : m.length ≤ 601) (hp : l.length ≤ cap) (hp2 : m.length ≤ cap2) (w : World) (hl : RdDt w.heap.size w a l) (hm : RdDt w.heap.size w a2 m) :
    Calls Try.prog 21 #[.slice a l.length cap, .slice a2 m.length cap2] w fun e w' => ∃ v, e = .returned (.tuple #[v, .int .i64 0]) ∧ OwnDt w.heap.size w' v (jnV l m) ∧ Below w.heap.size w w' := by
  have K0 := Lib.hid (Check2_any a cap l a2 cap2 m w hl hm)
  rw [ch2_ok h1 h2] at K0
  have K1 := Lib.hid (fun W => greater_any W)
  have K2 : Hid (∀ W, Below w.heap.size w W → Calls Try.prog 30 #[.agg #[.func (.func 36) #[] #[]], .slice a l.length cap, .slice a2 m.length cap2] W fun e w' => ∃ v, e = .returned v ∧ OwnDt W.heap.size w' v (jnV l m) ∧ Below W.heap.size W w') := Lib.hid (fun W h => by
    rw [← join_mk h1 h2]
    exact merge_gr a cap l a2 cap2 m h1 h2 hn1 hn2 hp hp2 W (hl.call h) (hm.call h))
  have HB0 := Lib.hid (Below.refl w.heap.size w)
  obtain ⟨Z, hZ⟩ := exEqD (jnV l m)
  rw [hZ] at K2 ⊢
  clear hl hm h1 h2 hn1 hn2 hp hp2 hZ
  generalize l.length = n at *
  generalize m.length = q at *
  go_enter Try.func21, Try.ntmps21
  go_wp2_with fail
  with_reducible refine K0.out.mono ?_
  rintro e w1 ⟨rfl, hb⟩
  have HB1 := nextB HB0 hb
  clear hb
  go_wp2_with fail
  with_reducible refine (K1.out _).mono ?_
  rintro e w2 ⟨rfl, hb⟩
  have HB2 := nextB HB1 hb
  clear hb
  go_wp2_with fail
  with_reducible refine (K2.out _ HB2.out).mono ?_
  rintro e w3 ⟨v, rfl, ho, hb⟩
  have HO := Lib.hid (ho.mono HB2.out.size)
  have HB3 := nextB HB2 hb
  clear hb ho
  go_wp2_with fail
  go_ret2
  exact ⟨_, rfl, HO.out, HB3.out⟩

set_option maxRecDepth 100000 in
set_option maxHeartbeats 1000000 in
theorem Join12_bad (a : Option Addr) (cap : Nat) (l : List Dt) (a2 : Option Addr) (cap2 : Nat) (m : List Dt) (h : ¬ (okV l ∧ okV m)) (w : World) (hl : RdDt w.heap.size w a l) (hm : RdDt w.heap.size w a2 m) :
    Calls Try.prog 21 #[.slice a l.length cap, .slice a2 m.length cap2] w fun e w' => e = .returned (.tuple #[.slice none 0 0, .int .i64 120]) ∧ Below w.heap.size w w' := by
  have K0 := Lib.hid (Check2_any a cap l a2 cap2 m w hl hm)
  rw [ch2_bad h] at K0
  generalize l.length = n at *
  generalize m.length = q at *
  clear hl hm h
  go_enter Try.func21, Try.ntmps21
  go_wp2_with fail
  with_reducible refine K0.out.mono ?_
  rintro e w1 ⟨rfl, hb⟩
  have HB1 := Lib.hid hb
  clear hb
  go_wp2_with fail
  go_ret2
  exact ⟨rfl, HB1.out⟩

set_option maxRecDepth 100000 in
set_option maxHeartbeats 1000000 in
theorem Meet12_ok (a : Option Addr) (cap : Nat) (l : List Dt) (a2 : Option Addr) (cap2 : Nat) (m : List Dt) (h1 : okV l) (h2 : okV m) (hn1 : l.length ≤ 600) (hn2 : m.length ≤ 601) (hp : l.length ≤ cap) (hp2 : m.length ≤ cap2) (w : World) (hl : RdDt w.heap.size w a l) (hm : RdDt w.heap.size w a2 m) :
    Calls Try.prog 23 #[.slice a l.length cap, .slice a2 m.length cap2] w fun e w' => ∃ v, e = .returned (.tuple #[v, .int .i64 0]) ∧ OwnDt w.heap.size w' v (mtV l m) ∧ Below w.heap.size w w' := by
  have K0 := Lib.hid (Check2_any a cap l a2 cap2 m w hl hm)
  rw [ch2_ok h1 h2] at K0
  have K1 := Lib.hid (fun W => lesser_any W)
  have K2 : Hid (∀ W, Below w.heap.size w W → Calls Try.prog 30 #[.agg #[.func (.func 38) #[] #[]], .slice a l.length cap, .slice a2 m.length cap2] W fun e w' => ∃ v, e = .returned v ∧ OwnDt W.heap.size w' v (mtV l m) ∧ Below W.heap.size W w') := Lib.hid (fun W h => by
    rw [← meet_mk h1 h2]
    exact merge_ls a cap l a2 cap2 m h1 h2 hn1 hn2 hp hp2 W (hl.call h) (hm.call h))
  have HB0 := Lib.hid (Below.refl w.heap.size w)
  obtain ⟨Z, hZ⟩ := exEqD (mtV l m)
  rw [hZ] at K2 ⊢
  clear hl hm h1 h2 hn1 hn2 hp hp2 hZ
  generalize l.length = n at *
  generalize m.length = q at *
  go_enter Try.func23, Try.ntmps23
  go_wp2_with fail
  with_reducible refine K0.out.mono ?_
  rintro e w1 ⟨rfl, hb⟩
  have HB1 := nextB HB0 hb
  clear hb
  go_wp2_with fail
  with_reducible refine (K1.out _).mono ?_
  rintro e w2 ⟨rfl, hb⟩
  have HB2 := nextB HB1 hb
  clear hb
  go_wp2_with fail
  with_reducible refine (K2.out _ HB2.out).mono ?_
  rintro e w3 ⟨v, rfl, ho, hb⟩
  have HO := Lib.hid (ho.mono HB2.out.size)
  have HB3 := nextB HB2 hb
  clear hb ho
  go_wp2_with fail
  go_ret2
  exact ⟨_, rfl, HO.out, HB3.out⟩

set_option maxRecDepth 100000 in
set_option maxHeartbeats 1000000 in
theorem Meet12_bad (a : Option Addr) (cap : Nat) (l : List Dt) (a2 : Option Addr) (cap2 : Nat) (m : List Dt) (h : ¬ (okV l ∧ okV m)) (w : World) (hl : RdDt w.heap.size w a l) (hm : RdDt w.heap.size w a2 m) :
    Calls Try.prog 23 #[.slice a l.length cap, .slice a2 m.length cap2] w fun e w' => e = .returned (.tuple #[.slice none 0 0, .int .i64 120]) ∧ Below w.heap.size w w' := by
  have K0 := Lib.hid (Check2_any a cap l a2 cap2 m w hl hm)
  rw [ch2_bad h] at K0
  generalize l.length = n at *
  generalize m.length = q at *
  clear hl hm h
  go_enter Try.func23, Try.ntmps23
  go_wp2_with fail
  with_reducible refine K0.out.mono ?_
  rintro e w1 ⟨rfl, hb⟩
  have HB1 := Lib.hid hb
  clear hb
  go_wp2_with fail
  go_ret2
  exact ⟨rfl, HB1.out⟩

set_option maxRecDepth 100000 in
set_option maxHeartbeats 1000000 in
theorem Compare12_ok (a : Option Addr) (cap : Nat) (l : List Dt) (a2 : Option Addr) (cap2 : Nat) (m : List Dt) (h1 : okV l) (h2 : okV m) (hp : l.length ≤ cap) (hp2 : m.length ≤ cap2) (w : World) (hl : RdDt w.heap.size w a l) (hm : RdDt w.heap.size w a2 m) :
    Calls Try.prog 25 #[.slice a l.length cap, .slice a2 m.length cap2] w fun e w' => e = .returned (.tuple #[.int .i64 (cmpV l m), .int .i64 0]) ∧ Below w.heap.size w w' := by
  have K0 := Lib.hid (Check2_any a cap l a2 cap2 m w hl hm)
  rw [ch2_ok h1 h2] at K0
  have K2 := Lib.hid (fun W (h : Below w.heap.size w W) => compare_any a cap l a2 cap2 m h1 h2 hp hp2 W (hl.call h) (hm.call h))
  have HB0 := Lib.hid (Below.refl w.heap.size w)
  obtain ⟨Z, hZ⟩ := exEqD (cmpV l m)
  rw [hZ] at K2 ⊢
  clear hl hm h1 h2 hp hp2 hZ
  generalize l.length = n at *
  generalize m.length = q at *
  go_enter Try.func25, Try.ntmps25
  go_wp2_with fail
  with_reducible refine K0.out.mono ?_
  rintro e w1 ⟨rfl, hb⟩
  have HB1 := nextB HB0 hb
  clear hb
  go_wp2_with fail
  with_reducible refine (K2.out _ HB1.out).mono ?_
  rintro e w2 ⟨rfl, hb⟩
  have HB2 := nextB HB1 hb
  clear hb
  go_wp2_with fail
  go_ret2
  exact ⟨rfl, HB2.out⟩

set_option maxRecDepth 100000 in
set_option maxHeartbeats 1000000 in
theorem Compare12_bad (a : Option Addr) (cap : Nat) (l : List Dt) (a2 : Option Addr) (cap2 : Nat) (m : List Dt) (h : ¬ (okV l ∧ okV m)) (w : World) (hl : RdDt w.heap.size w a l) (hm : RdDt w.heap.size w a2 m) :
    Calls Try.prog 25 #[.slice a l.length cap, .slice a2 m.length cap2] w fun e w' => e = .returned (.tuple #[.int .i64 0, .int .i64 120]) ∧ Below w.heap.size w w' := by
  have K0 := Lib.hid (Check2_any a cap l a2 cap2 m w hl hm)
  rw [ch2_bad h] at K0
  generalize l.length = n at *
  generalize m.length = q at *
  clear hl hm h
  go_enter Try.func25, Try.ntmps25
  go_wp2_with fail
  with_reducible refine K0.out.mono ?_
  rintro e w1 ⟨rfl, hb⟩
  have HB1 := Lib.hid hb
  clear hb
  go_wp2_with fail
  go_ret2
  exact ⟨rfl, HB1.out⟩

set_option maxRecDepth 100000 in
set_option maxHeartbeats 1000000 in
theorem With12_ok (a : Option Addr) (cap : Nat) (l : List Dt) (d : Dt) (h1 : okV l) (h2 : dotP d) (hn1 : l.length ≤ 600) (hp : l.length ≤ cap) (w : World) (hl : RdDt w.heap.size w a l) :
    Calls Try.prog 12 #[.slice a l.length cap, dtV d] w fun e w' => ∃ v, e = .returned (.tuple #[v, .int .i64 0]) ∧ OwnDt w.heap.size w' v (wiV l d) ∧ Below w.heap.size w w' := by
  unfold dtV
  have K3 : Hid (∀ (W : World) (g : Nat), Below w.heap.size w W → RdDt W.heap.size W (some ⟨g, 0, none⟩) [d] → Calls Try.prog 21 #[.slice a l.length cap, .slice (some ⟨g, 0, none⟩) 1 1] W fun e w' => ∃ v, e = .returned (.tuple #[v, .int .i64 0]) ∧ OwnDt W.heap.size w' v (wiV l d) ∧ Below W.heap.size W w') := Lib.hid (fun W g h hr => Join12_ok a cap l (some ⟨g, 0, none⟩) 1 [d] h1 (okV_one h2) hn1 (by simp) hp (by simp) W (hl.call h) hr)
  obtain ⟨wb, hwb⟩ : ∃ wb, wb = w.alloc (.cells #[.int .i64 d.1, .int .i64 d.2] 24) := ⟨_, rfl⟩
  have HB : Hid (Below w.heap.size w wb) := Lib.hid (by rw [hwb]; exact (Below.refl _ _).alloc (Nat.le_refl _) _)
  have HD : Hid (DB wb w.heap.size d) := Lib.hid (by rw [hwb]; exact DB.new w d)
  have HWB : Hid (w.alloc (.cells #[.int .i64 d.1, .int .i64 d.2] 24) = wb) := Lib.hid hwb.symm
  have hz : Hid (wb.heap.size = w.heap.size + 1) := Lib.hid (by rw [hwb]; simp)
  obtain ⟨Z, hZ⟩ := exEqD (wiV l d)
  rw [hZ] at K3 ⊢
  clear hZ
  clear hwb hl h1 h2 hn1 hp
  generalize l.length = n at *
  have c0 := (DB.new w d).cell0
  have c1 := (DB.new w d).cell1
  go_enter Try.func12, Try.ntmps12
  go_wp2_with fail
  rw [HWB.out]
  clear c0 c1 HWB
  have HB3 : Hid (Below w.heap.size w (wb.alloc (.cells #[.int .i64 d.1, .int .i64 d.2] 24))) := Lib.hid (HB.out.alloc HB.out.size _)
  with_reducible refine (K3.out _ (w.heap.size + 1) HB3.out (by rw [World.size_alloc, ← hz.out]; exact RdDt.one d)).mono ?_
  rintro e w4 ⟨v, rfl, ho, hb⟩
  have HO := Lib.hid ho
  have HB4 := nextB HB3 hb
  clear ho hb
  go_wp2_with fail
  go_ret2
  exact ⟨_, rfl, HO.out.mono (by have := HB3.out.size; exact this), HB4.out⟩

set_option maxRecDepth 100000 in
set_option maxHeartbeats 1000000 in
theorem With12_bad (a : Option Addr) (cap : Nat) (l : List Dt) (d : Dt) (h : ¬ (okV l ∧ dotP d)) (w : World) (hl : RdDt w.heap.size w a l) :
    Calls Try.prog 12 #[.slice a l.length cap, dtV d] w fun e w' => e = .returned (.tuple #[.slice none 0 0, .int .i64 120]) ∧ Below w.heap.size w w' := by
  unfold dtV
  have hbad := h
  have K3 : Hid (∀ (W : World) (g : Nat), Below w.heap.size w W → RdDt W.heap.size W (some ⟨g, 0, none⟩) [d] → Calls Try.prog 21 #[.slice a l.length cap, .slice (some ⟨g, 0, none⟩) 1 1] W fun e w' => e = .returned (.tuple #[.slice none 0 0, .int .i64 120]) ∧ Below W.heap.size W w') := Lib.hid (fun W g h hr => Join12_bad a cap l (some ⟨g, 0, none⟩) 1 [d] (fun hh => hbad ⟨hh.1, hh.2.1⟩) W (hl.call h) hr)
  obtain ⟨wb, hwb⟩ : ∃ wb, wb = w.alloc (.cells #[.int .i64 d.1, .int .i64 d.2] 24) := ⟨_, rfl⟩
  have HB : Hid (Below w.heap.size w wb) := Lib.hid (by rw [hwb]; exact (Below.refl _ _).alloc (Nat.le_refl _) _)
  have HD : Hid (DB wb w.heap.size d) := Lib.hid (by rw [hwb]; exact DB.new w d)
  have HWB : Hid (w.alloc (.cells #[.int .i64 d.1, .int .i64 d.2] 24) = wb) := Lib.hid hwb.symm
  have hz : Hid (wb.heap.size = w.heap.size + 1) := Lib.hid (by rw [hwb]; simp)
  clear hwb hl h hbad
  generalize l.length = n at *
  have c0 := (DB.new w d).cell0
  have c1 := (DB.new w d).cell1
  go_enter Try.func12, Try.ntmps12
  go_wp2_with fail
  rw [HWB.out]
  clear c0 c1 HWB
  have HB3 : Hid (Below w.heap.size w (wb.alloc (.cells #[.int .i64 d.1, .int .i64 d.2] 24))) := Lib.hid (HB.out.alloc HB.out.size _)
  with_reducible refine (K3.out _ (w.heap.size + 1) HB3.out (by rw [World.size_alloc, ← hz.out]; exact RdDt.one d)).mono ?_
  rintro e w4 ⟨rfl, hb⟩
  have HB4 := nextB HB3 hb
  clear hb
  go_wp2_with fail
  go_ret2
  exact ⟨rfl, HB4.out⟩
end Go.Proofs.Ytfdfaajjlangjaa
