/-
  Package pake: the reference: Eight, Mask, Password, Check, masked, Point, Element.
-/
import Derived.Test.YtkpecfhcdechmaaDoorJm
import Derived.Test.YtkpecfhcdechmaaDoorGv
import Derived.Test.YtkpecfhcdechmaaDoorPkH
namespace Go.Proofs.YtkpecfhcdechmaaDoor
open Go.RowKit
set_option linter.unusedVariables false
set_option linter.unusedSimpArgs false

set_option maxRecDepth 100000 in
set_option maxHeartbeats 1600000 in
theorem rEight_any (n : Int) (w : World) :
    Calls Tryd.prog 28 #[.int .i64 n] w fun e w' => ∃ v, e = .returned v ∧ OwnB w.heap.size w' v (be8 n) ∧ Below w.heap.size w w' := by
  have hA0 : Below w.heap.size w (w.alloc (.cells #[] 5)) := (Below.refl _ _).alloc (Nat.le_refl _) _
  have HO0 : Hid (OwnB w.heap.size (w.alloc (.cells #[] 5)) (.slice (some ⟨w.heap.size, 0, none⟩) 0 0) ((be8 n).take 0)) := OwnB.empty (Nat.le_refl _)
  have HB0 := Lib.hid hA0
  clear hA0
  go_enter Tryd.func28, Tryd.ntmps28
  go_wp2_with fail
  go_loopw [3, 4] (fun v i wr => ∃ k : Nat, k ≤ 8 ∧ i = .int .i64 (7 - (k : Int)) ∧ OwnB w.heap.size wr v ((be8 n).take k) ∧ Below w.heap.size w wr) (fun _ i _ => (intOf i + 1).toNat)
  case atStart => exact ⟨0, by omega, rfl, HO0.out, HB0.out⟩
  case round =>
    clear HO0 HB0
    obtain ⟨k, hk, rfl, ho, hb⟩ := hrel
    have HO := Lib.hid ho
    have HB := Lib.hid hb
    obtain ⟨av, cv, rfl, _, _⟩ := ho.form
    clear ho hb
    by_cases hlt : k < 8
    · have HX := Lib.hid (be8_take n k hlt)
      have HV := Lib.hid (bv_byN n k)
      have hl : ((be8 n).take k).length + 1 ≤ 140737488355328 := by rw [List.length_take, be8_len]; omega
      have hi0 : (0 : Int) ≤ 7 - (k : Int) := by omega
      have HL := Lib.hid hl
      clear hl
      obtain ⟨tk, htk⟩ : ∃ tk, tk = (be8 n).take k := ⟨_, rfl⟩
      rw [← htk] at HX HL HO ⊢
      clear htk
      go_wp2_with ((with_reducible show wpList _ _ _ (({ dst := some 17, op := _, type := _, pos := _, after := _, guard := _ } : Oper) :: _) _ _); go_must (refine wpList_app1 rfl (.tmp 10) (.tmp 16) rfl w.heap.size _ tk (byN n k) wr.heap.size rfl (HO.out.alloc _) rfl ?hc HL.out ?hs ?_))
      case hc => rw [cell_of_row _ _ _ _ _ _ (heap_alloc_new wr _), show 8 * (7 - k) = 56 - 8 * k by omega, HV.out]; rfl
      case hs => have := HB.out.size; simp; omega
      intro v3 w3 ho3 hg3
      have HB3 := Lib.hid ((HB.out.alloc HB.out.size _).trans (hg3.below (fun k hk => HO.out.base k hk) (HB.out.alloc HB.out.size _).size))
      rw [← HX.out] at ho3
      have HO3 := Lib.hid ho3
      obtain ⟨a3, c3, rfl, _, _⟩ := ho3.form
      clear ho3 hg3
      go_wp2_with fail
      go_roundw
      case rel => exact ⟨k + 1, by omega, by go_num, HO3.out, HB3.out⟩
      case measure => simp [intOf]; omega
    · obtain rfl : k = 8 := by omega
      rw [show (be8 n).take 8 = be8 n from by rw [List.take_of_length_le (by rw [be8_len]; omega)]] at HO
      go_wp2_with fail
      go_ret
      exact ⟨_, rfl, HO.out, HB.out⟩

set_option maxRecDepth 100000 in
set_option maxHeartbeats 1600000 in
theorem rPassword_any (c : Int) (w : World) :
    Calls Tryd.prog 24 #[.int .i64 c] w fun e w' => e = .returned (.int .i64 (pwS c : Nat)) ∧ Below w.heap.size w w' := by
  have HK := Lib.hid (rEight_any c w)
  obtain ⟨sc, hsc⟩ : ∃ sc, pwS c = sc := ⟨_, rfl⟩
  have HSC : Hid (scalS (tagS (ByteArray.mk #[99, 111, 100, 101]).data.toList (be8 c)) = sc) := Lib.hid hsc
  rw [hsc]
  clear hsc
  go_enter Tryd.func24, Tryd.ntmps24
  go_wp2_with fail
  refine HK.out.mono ?_
  rintro e w2 ⟨v, rfl, ho, hb⟩
  obtain ⟨a, cap, rfl, -, -⟩ := ho.form
  have HB2 := Lib.hid hb
  have hc := hScalar ⟨#[99, 111, 100, 101]⟩ a cap (be8 c) w2 ho.rdOf ho.caps.1 ho.caps.2 ho.nilCap (by decide) (by rw [be8_len]; omega)
  rw [HSC.out] at hc
  have HC := Lib.hid hc
  clear hc ho hb HK
  generalize (be8 c).length = q at *
  go_wp2_with (go_at_call 48; refine HC.out.mono ?_; rintro e w3 ⟨rfl, hb⟩)
  go_ret
  exact ⟨rfl, HB2.out.trans (hb.mono HB2.out.size)⟩

theorem rd_const (w : World) (l : List UInt8) (hl : l.length ≤ 1000) : RdB (w.alloc (.cells (bvA l) 5 (l.length, l.length + 1))).heap.size (w.alloc (.cells (bvA l) 5 (l.length, l.length + 1))) (some ⟨w.heap.size, 0, none⟩) l := by
  refine ⟨by unfold maxLen; omega, .inr ⟨w.heap.size, 0, rfl, by simp, fun j hj => ?_⟩⟩
  rw [Nat.zero_add, World.cell?_alloc_mark, bvA_get l j hj]

set_option maxRecDepth 100000 in
set_option maxHeartbeats 1600000 in
theorem rMask_any (r : Int) (w : World) :
    Calls Tryd.prog 26 #[.int .i64 r] w fun e w' => e = .returned (.int .i64 (mkS r : Nat)) ∧ Below w.heap.size w w' := by
  obtain ⟨m, hm⟩ : ∃ m, mkS r = m := ⟨_, rfl⟩
  rw [hm]
  by_cases h1 : r = 1
  · have g1 : (r == 1) = true := by rw [h1]; rfl
    unfold mkS at hm
    rw [if_pos h1] at hm
    clear h1
    have hB1 : Below w.heap.size w (w.alloc (.cells (bvA bHost) 5 (4, 5))) := (Below.refl _ _).alloc (Nat.le_refl _) _
    have hc := hPoint ⟨#[112, 97, 107, 101]⟩ (some ⟨w.heap.size, 0, none⟩) 4 bHost (w.alloc (.cells (bvA bHost) 5 (4, 5))) (rd_const w bHost (by decide)) (by decide) (by decide) (fun e => by cases e) (by decide) (by decide)
    rw [show ptS (tagS (ByteArray.mk #[112, 97, 107, 101]).data.toList bHost) = m from hm] at hc
    have HC := Lib.hid hc
    have HB1 := Lib.hid hB1
    have hcv := fun (W : World) (C : Array Value) (n c : Nat) => Lib.run_convert_bytes_const (P := Tryd.prog) W 38 5 C n c Tryd.underlying38 Tryd.underlying5
    clear hm hc hB1
    go_enter Tryd.func26, Tryd.ntmps26
    go_wp2_with fail
    clear hcv
    change Calls _ _ #[.string ⟨#[112, 97, 107, 101]⟩, .slice (some ⟨w.heap.size, 0, none⟩) 4 4] (w.alloc (.cells (bvA bHost) 5 (4, 5))) _
    refine HC.out.mono ?_
    rintro e w3 ⟨rfl, hb⟩
    go_wp2_with fail
    go_ret
    exact ⟨rfl, HB1.out.trans (hb.mono HB1.out.size)⟩
  · have g1 : (r == 1) = false := beq_eq_false_iff_ne.2 h1
    unfold mkS at hm
    rw [if_neg h1] at hm
    clear h1
    have hB1 : Below w.heap.size w (w.alloc (.cells (bvA bGuest) 5 (5, 6))) := (Below.refl _ _).alloc (Nat.le_refl _) _
    have hc := hPoint ⟨#[112, 97, 107, 101]⟩ (some ⟨w.heap.size, 0, none⟩) 5 bGuest (w.alloc (.cells (bvA bGuest) 5 (5, 6))) (rd_const w bGuest (by decide)) (by decide) (by decide) (fun e => by cases e) (by decide) (by decide)
    rw [show ptS (tagS (ByteArray.mk #[112, 97, 107, 101]).data.toList bGuest) = m from hm] at hc
    have HC := Lib.hid hc
    have HB1 := Lib.hid hB1
    have hcv := fun (W : World) (C : Array Value) (n c : Nat) => Lib.run_convert_bytes_const (P := Tryd.prog) W 38 5 C n c Tryd.underlying38 Tryd.underlying5
    clear hm hc hB1
    go_enter Tryd.func26, Tryd.ntmps26
    go_wp2_with fail
    clear hcv
    change Calls _ _ #[.string ⟨#[112, 97, 107, 101]⟩, .slice (some ⟨w.heap.size, 0, none⟩) 5 5] (w.alloc (.cells (bvA bGuest) 5 (5, 6))) _
    refine HC.out.mono ?_
    rintro e w3 ⟨rfl, hb⟩
    go_wp2_with fail
    go_ret
    exact ⟨rfl, HB1.out.trans (hb.mono HB1.out.size)⟩

set_option maxRecDepth 100000 in
set_option maxHeartbeats 1600000 in
theorem rmasked_any (r c : Int) (w : World) :
    Calls Tryd.prog 38 #[.int .i64 r, .int .i64 c] w fun e w' => e = .returned (.int .i64 (mdS r c : Nat)) ∧ Below w.heap.size w w' := by
  have KM := Lib.hid (fun W => rMask_any r W)
  have KP := Lib.hid (fun W => rPassword_any c W)
  have KX := Lib.hid (fun W => hExp_any (mkS r : Nat) (pwS c : Nat) W)
  rw [expR_ok (mkS_is r) (pwS_bd c).2] at KX
  obtain ⟨x, hx⟩ : ∃ x, mdS r c = x := ⟨_, rfl⟩
  rw [show mkS r ^ pwS c % 4611686018427377339 = x from hx] at KX
  rw [hx]
  obtain ⟨m, hm⟩ : ∃ m, mkS r = m := ⟨_, rfl⟩
  obtain ⟨p, hp⟩ : ∃ p, pwS c = p := ⟨_, rfl⟩
  rw [hm] at KM KX
  rw [hp] at KP KX
  clear hx hm hp
  go_enter Tryd.func38, Tryd.ntmps38
  go_wp2_with fail
  refine (KM.out _).mono ?_
  rintro e w2 ⟨rfl, hb⟩
  have HB2 := Lib.hid hb
  clear hb
  go_wp2_with fail
  refine (KP.out _).mono ?_
  rintro e w3 ⟨rfl, hb⟩
  have HB3 := Lib.hid (HB2.out.trans (hb.mono HB2.out.size))
  clear hb
  go_wp2_with fail
  refine (KX.out _).mono ?_
  rintro e w4 ⟨rfl, hw4⟩
  rw [hw4]
  clear hw4 w4
  go_wp2_with fail
  go_ret
  exact ⟨rfl, HB3.out⟩

set_option maxRecDepth 100000 in
set_option maxHeartbeats 1600000 in
theorem rCheck10_any (r c s : Int) (w : World) :
    Calls Tryd.prog 14 #[sidV r c s] w fun e w' => e = .returned (.int .i64 (pkE r c s)) ∧ Below w.heap.size w w' := by
  unfold sidV
  obtain ⟨W, hw1⟩ : ∃ w1, w1 = w.alloc (.cells #[.int .i64 r, .int .i64 c, .int .i64 s] 23) := ⟨_, rfl⟩
  have HBW : Hid (Below w.heap.size w W) := Lib.hid (hw1 ▸ (Below.refl _ _).alloc (Nat.le_refl _) _)
  have HCW : Hid (CB W w.heap.size 23 #[.int .i64 r, .int .i64 c, .int .i64 s]) := Lib.hid (hw1 ▸ CB.new w _ _)
  obtain ⟨y, hy⟩ : ∃ y, pkE r c s = y := ⟨_, rfl⟩
  have HY := Lib.hid hy
  rw [hy]
  clear hy
  have c0 : W.cell? ⟨w.heap.size, 0, none⟩ = some (.int .i64 r) := HCW.out.cell 0
  have c1 : W.cell? ⟨w.heap.size, 1, none⟩ = some (.int .i64 c) := HCW.out.cell 1
  have c2 : W.cell? ⟨w.heap.size, 2, none⟩ = some (.int .i64 s) := HCW.out.cell 2
  by_cases q0 : r < 1
  · have f0 : decide (r < 1) = true := decide_eq_true q0
    have HR : Hid (pkE r c s = 100) := Lib.hid (if_neg (by unfold okP; omega))
    clear q0
    go_enter Tryd.func14, Tryd.ntmps14
    go_wp2_with fail
    rw [← hw1]
    go_wp2_with fail
    go_ret
    exact ⟨by rw [← HY.out, HR.out]; rfl, HBW.out⟩
  · have f0 : decide (r < 1) = false := decide_eq_false q0
    by_cases q1 : 2 < r
    · have f1 : decide (2 < r) = true := decide_eq_true q1
      have HR : Hid (pkE r c s = 100) := Lib.hid (if_neg (by unfold okP; omega))
      clear q0 q1
      go_enter Tryd.func14, Tryd.ntmps14
      go_wp2_with fail
      rw [← hw1]
      go_wp2_with fail
      go_ret
      exact ⟨by rw [← HY.out, HR.out]; rfl, HBW.out⟩
    · have f1 : decide (2 < r) = false := decide_eq_false q1
      by_cases q2 : c < 0
      · have f2 : decide (c < 0) = true := decide_eq_true q2
        have HR : Hid (pkE r c s = 100) := Lib.hid (if_neg (by unfold okP; omega))
        clear q0 q1 q2
        go_enter Tryd.func14, Tryd.ntmps14
        go_wp2_with fail
        rw [← hw1]
        go_wp2_with fail
        go_ret
        exact ⟨by rw [← HY.out, HR.out]; rfl, HBW.out⟩
      · have f2 : decide (c < 0) = false := decide_eq_false q2
        by_cases q3 : 999999 < c
        · have f3 : decide (999999 < c) = true := decide_eq_true q3
          have HR : Hid (pkE r c s = 100) := Lib.hid (if_neg (by unfold okP; omega))
          clear q0 q1 q2 q3
          go_enter Tryd.func14, Tryd.ntmps14
          go_wp2_with fail
          rw [← hw1]
          go_wp2_with fail
          go_ret
          exact ⟨by rw [← HY.out, HR.out]; rfl, HBW.out⟩
        · have f3 : decide (999999 < c) = false := decide_eq_false q3
          by_cases q4 : s < 1
          · have f4 : decide (s < 1) = true := decide_eq_true q4
            have HR : Hid (pkE r c s = 100) := Lib.hid (if_neg (by unfold okP; omega))
            clear q0 q1 q2 q3 q4
            go_enter Tryd.func14, Tryd.ntmps14
            go_wp2_with fail
            rw [← hw1]
            go_wp2_with fail
            go_ret
            exact ⟨by rw [← HY.out, HR.out]; rfl, HBW.out⟩
          · have f4 : decide (s < 1) = false := decide_eq_false q4
            by_cases q5 : 2305843009213688669 ≤ s
            · have f5 : decide (2305843009213688669 ≤ s) = true := decide_eq_true q5
              have HR : Hid (pkE r c s = 100) := Lib.hid (if_neg (by unfold okP; omega))
              clear q0 q1 q2 q3 q4 q5
              go_enter Tryd.func14, Tryd.ntmps14
              go_wp2_with fail
              rw [← hw1]
              go_wp2_with fail
              go_ret
              exact ⟨by rw [← HY.out, HR.out]; rfl, HBW.out⟩
            · have f5 : decide (2305843009213688669 ≤ s) = false := decide_eq_false q5
              have HR : Hid (pkE r c s = 0) := Lib.hid (if_pos (by unfold okP; omega))
              clear q0 q1 q2 q3 q4 q5
              go_enter Tryd.func14, Tryd.ntmps14
              go_wp2_with fail
              rw [← hw1]
              go_wp2_with fail
              go_ret
              exact ⟨by rw [← HY.out, HR.out]; rfl, HBW.out⟩

/-- A power of 4, by the reference. -/
theorem hBase_ok (n : Nat) (hn : n < 2305843009213688669) (w : World) : Calls Tryd.prog 36 #[.int .i64 n] w fun e w' => e = .returned (.tuple #[.int .i64 ((4 ^ n % 4611686018427377339 : Nat) : Int), .int .i64 0]) ∧ w' = w := by
  have k := hBase_any (n : Int) w
  rw [show (4 : Int) = ((4 : Nat) : Int) from rfl, expR_ok four4 hn] at k
  exact k
set_option maxRecDepth 100000 in
set_option maxHeartbeats 1600000 in
theorem rPoint_ok (r c : Int) (n : Nat) (h : okP r c n) (w : World) :
    Calls Tryd.prog 12 #[sidV r c n] w fun e w' => e = .returned (.tuple #[.int .i64 ((ptP r c n : Nat) : Int), .int .i64 0]) ∧ Below w.heap.size w w' := by
  have KC := Lib.hid (fun W => rCheck10_any r c n W)
  rw [pkE_ok h] at KC
  have KB := Lib.hid (fun W => hBase_ok n (by have := h.2.2.2; omega) W)
  have KV := Lib.hid (fun W => rmasked_any r c W)
  have KM := Lib.hid (fun W => hMul_any (4 ^ n % 4611686018427377339 : Nat) (mdS r c : Nat) W)
  rw [mulR_ok (four_is n) (mdS_is r c)] at KM
  obtain ⟨y, hy⟩ : ∃ y, ptP r c n = y := ⟨_, rfl⟩
  rw [show (4 ^ n % 4611686018427377339) * mdS r c % 4611686018427377339 = y from hy] at KM
  rw [hy]
  obtain ⟨p, hp⟩ : ∃ p, 4 ^ n % 4611686018427377339 = p := ⟨_, rfl⟩
  obtain ⟨m, hm⟩ : ∃ m, mdS r c = m := ⟨_, rfl⟩
  rw [hp] at KB KM
  rw [hm] at KV KM
  unfold sidV at *
  obtain ⟨w1, hw1⟩ : ∃ w1, w1 = w.alloc (.cells #[.int .i64 r, .int .i64 c, .int .i64 n] 23) := ⟨_, rfl⟩
  have HB1 : Hid (Below w.heap.size w w1) := Lib.hid (hw1 ▸ (Below.refl _ _).alloc (Nat.le_refl _) _)
  have HC1 : Hid (CB w1 w.heap.size 23 #[.int .i64 r, .int .i64 c, .int .i64 n]) := Lib.hid (hw1 ▸ CB.new w _ _)
  obtain ⟨a0, a1, a2⟩ := HC1.out.cells3
  clear h hy hp hm
  go_enter Tryd.func12, Tryd.ntmps12
  go_wp2_with fail
  rw [← hw1]
  clear hw1
  refine (KC.out _).mono ?_
  rintro e w2 ⟨rfl, hb⟩
  have HB2 := Lib.hid (HB1.out.trans (hb.mono HB1.out.size))
  have HC2 := Lib.hid (HC1.out.call hb)
  clear hb HB1 HC1 a0 a1 a2
  obtain ⟨a0, a1, a2⟩ := HC2.out.cells3
  go_wp2_with fail
  refine (KB.out _).mono ?_
  rintro e wo ⟨rfl, hwo⟩
  rw [hwo]
  clear hwo wo
  go_wp2_with fail
  refine (KV.out _).mono ?_
  rintro e w3 ⟨rfl, hb⟩
  have HB3 := Lib.hid (HB2.out.trans (hb.mono HB2.out.size))
  have HC3 := Lib.hid (HC2.out.call hb)
  clear hb HB2 HC2 a0 a1 a2
  obtain ⟨a0, a1, a2⟩ := HC3.out.cells3
  go_wp2_with fail
  refine (KM.out _).mono ?_
  rintro e wo ⟨rfl, hwo⟩
  rw [hwo]
  clear hwo wo
  go_wp2_with fail
  go_ret2
  exact ⟨rfl, HB3.out⟩
set_option maxRecDepth 100000 in
theorem rPoint_bad (r c s : Int) (h : ¬ okP r c s) (w : World) :
    Calls Tryd.prog 12 #[sidV r c s] w fun e w' => e = .returned (.tuple #[.int .i64 0, .int .i64 100]) ∧ Below w.heap.size w w' := by
  have KC := Lib.hid (fun W => rCheck10_any r c s W)
  rw [pkE_bad h] at KC
  unfold sidV at *
  obtain ⟨w1, hw1⟩ : ∃ w1, w1 = w.alloc (.cells #[.int .i64 r, .int .i64 c, .int .i64 s] 23) := ⟨_, rfl⟩
  have HB1 : Hid (Below w.heap.size w w1) := Lib.hid (hw1 ▸ (Below.refl _ _).alloc (Nat.le_refl _) _)
  have HC1 : Hid (CB w1 w.heap.size 23 #[.int .i64 r, .int .i64 c, .int .i64 s]) := Lib.hid (hw1 ▸ CB.new w _ _)
  obtain ⟨a0, a1, a2⟩ := HC1.out.cells3
  clear h
  go_enter Tryd.func12, Tryd.ntmps12
  go_wp2_with fail
  rw [← hw1]
  clear hw1
  refine (KC.out _).mono ?_
  rintro e w2 ⟨rfl, hb⟩
  have HB2 := Lib.hid (HB1.out.trans (hb.mono HB1.out.size))
  have HC2 := Lib.hid (HC1.out.call hb)
  clear hb HB1 HC1 a0 a1 a2
  obtain ⟨a0, a1, a2⟩ := HC2.out.cells3
  go_wp2_with fail
  go_ret2
  exact ⟨rfl, HB2.out⟩
theorem rPoint_any (r c s : Int) (w : World) :
    Calls Tryd.prog 12 #[sidV r c s] w fun e w' => e = .returned (.tuple #[.int .i64 (ptW r c s), .int .i64 (pkE r c s)]) ∧ Below w.heap.size w w' := by
  by_cases h : okP r c s
  · obtain ⟨n, rfl⟩ : ∃ n : Nat, s = n := ⟨s.toNat, by have := h.2.2.1; omega⟩
    rw [ptW_ok h, pkE_ok h]
    exact rPoint_ok r c n h w
  · rw [ptW_bad h, pkE_bad h]
    exact rPoint_bad r c s h w

set_option maxRecDepth 100000 in
set_option maxHeartbeats 1600000 in
theorem rElement_any (r c : Int) (n p : Nat) (h : okP r c n) (hp : IsEl (p : Int)) (w : World) :
    Calls Tryd.prog 27 #[sidV r c n, .int .i64 p] w fun e w' => e = .returned (.int .i64 ((zP r c n p : Nat) : Int)) ∧ Below w.heap.size w w' := by
  have KV := Lib.hid (fun W => rmasked_any (3 - r) c W)
  have KI := Lib.hid (fun W => hInv_any (mdS (3 - r) c : Nat) W)
  rw [invR_ok (mdS_is (3 - r) c)] at KI
  have KM := Lib.hid (fun W => hMul_any (p : Nat) (mdS (3 - r) c ^ (oQ - 1) % 4611686018427377339 : Nat) W)
  rw [mulR_ok hp (inv_el (mdS_el (3 - r) c))] at KM
  have KX := Lib.hid (fun W => hExp_any (p * (mdS (3 - r) c ^ (oQ - 1) % 4611686018427377339) % 4611686018427377339 : Nat) (n : Nat) W)
  rw [expR_ok (mul_is hp (inv_el (mdS_el (3 - r) c))) (by have := h.2.2.2; omega)] at KX
  obtain ⟨y, hy⟩ : ∃ y, zP r c n p = y := ⟨_, rfl⟩
  rw [show (p * (mdS (3 - r) c ^ (oQ - 1) % 4611686018427377339) % 4611686018427377339) ^ n % 4611686018427377339 = y from hy] at KX
  rw [hy]
  obtain ⟨x, hx⟩ : ∃ x, p * (mdS (3 - r) c ^ (oQ - 1) % 4611686018427377339) % 4611686018427377339 = x := ⟨_, rfl⟩
  rw [hx] at KM KX
  obtain ⟨i, hi⟩ : ∃ i, mdS (3 - r) c ^ (oQ - 1) % 4611686018427377339 = i := ⟨_, rfl⟩
  rw [hi] at KM KI
  obtain ⟨m, hm⟩ : ∃ m, mdS (3 - r) c = m := ⟨_, rfl⟩
  rw [hm] at KV KI
  have a3 : IntKind.i64.wrap (3 - r) = 3 - r := IntWalk.i64_in _ (by have := h.1; omega)
  have hr1 : 1 ≤ r := h.1.1
  have hr2 : r ≤ 2 := h.1.2
  unfold sidV at *
  obtain ⟨w1, hw1⟩ : ∃ w1, w1 = w.alloc (.cells #[.int .i64 r, .int .i64 c, .int .i64 n] 23) := ⟨_, rfl⟩
  have HB1 : Hid (Below w.heap.size w w1) := Lib.hid (hw1 ▸ (Below.refl _ _).alloc (Nat.le_refl _) _)
  have HC1 : Hid (CB w1 w.heap.size 23 #[.int .i64 r, .int .i64 c, .int .i64 n]) := Lib.hid (hw1 ▸ CB.new w _ _)
  obtain ⟨a0, a1, a2⟩ := HC1.out.cells3
  clear h hy hx hi hm hp
  go_enter Tryd.func27, Tryd.ntmps27
  go_wp2_with fail
  rw [← hw1]
  clear hw1
  refine (KV.out _).mono ?_
  rintro e w2 ⟨rfl, hb⟩
  have HB2 := Lib.hid (HB1.out.trans (hb.mono HB1.out.size))
  have HC2 := Lib.hid (HC1.out.call hb)
  clear hb HB1 HC1 a0 a1 a2
  obtain ⟨a0, a1, a2⟩ := HC2.out.cells3
  go_wp2_with fail
  refine (KI.out _).mono ?_
  rintro e wo ⟨rfl, hwo⟩
  rw [hwo]
  clear hwo wo
  go_wp2_with fail
  refine (KM.out _).mono ?_
  rintro e wo ⟨rfl, hwo⟩
  rw [hwo]
  clear hwo wo
  go_wp2_with fail
  refine (KX.out _).mono ?_
  rintro e wo ⟨rfl, hwo⟩
  rw [hwo]
  clear hwo wo
  go_wp2_with fail
  go_ret
  exact ⟨rfl, HB2.out⟩
end Go.Proofs.YtkpecfhcdechmaaDoor
