/-
  The statements about signatures: the walks of SignPublicSpec, SignOnly and SignDifference.
-/
import Derived.Test.YtgpcbckpfnhhcaaDoorSu
namespace Go.Proofs.YtgpcbckpfnhhcaaDoor
open Go.RowKit
set_option linter.unusedVariables false
set_option linter.unusedSimpArgs false

open Classical in
noncomputable def pubA (x : Int) : Int × Int := if IsKey x then ((pubS x.toNat : Nat), 0) else (0, 50)
open Classical in
noncomputable def sgA (x : Int) (l : List UInt8) : Int × Int × Int := if IsKey x then ((rS x.toNat l : Nat), (sS x.toNat l : Nat), 0) else (0, 0, 50)
theorem publicA (x : Int) (w : World) : Calls Tryd.prog 12 #[.int .i64 x] w fun e w' => e = .returned (.tuple #[.int .i64 (pubA x).1, .int .i64 (pubA x).2]) ∧ Below w.heap.size w w' := by
  by_cases h : IsKey x
  · obtain ⟨n, rfl, h1, h2⟩ := h.nat
    unfold pubA; rw [if_pos h, Int.toNat_natCast]; exact public_ok n h1 h2 w
  · unfold pubA; rw [if_neg h]; exact public_bad x h w
theorem rPublicA (x : Int) (w : World) : Calls Tryd.prog 13 #[.int .i64 x] w fun e w' => e = .returned (.tuple #[.int .i64 (pubA x).1, .int .i64 (pubA x).2]) ∧ w' = w := by
  by_cases h : IsKey x
  · obtain ⟨n, rfl, h1, h2⟩ := h.nat
    unfold pubA; rw [if_pos h, Int.toNat_natCast]; exact rPublic_ok n h1 h2 w
  · unfold pubA; rw [if_neg h]; exact rPublic_bad x h w
theorem signA (x : Int) (a : Option Addr) (cap : Nat) (l : List UInt8) (w : World) (hT : Tab w) (hl : RdB w.heap.size w a l) (hcap : l.length ≤ cap) (hc2 : cap ≤ maxLen) (hnil : a = none → cap = 0) (hn : l.length ≤ 70368744100000) : Calls Tryd.prog 14 #[.int .i64 x, .slice a l.length cap] w fun e w' => e = .returned (.tuple #[.agg #[.int .i64 (sgA x l).1, .int .i64 (sgA x l).2.1], .int .i64 (sgA x l).2.2]) ∧ Below w.heap.size w w' := by
  by_cases h : IsKey x
  · obtain ⟨n, rfl, h1, h2⟩ := h.nat
    unfold sgA; rw [if_pos h, Int.toNat_natCast]; exact sign_ok n h1 h2 a cap l w hT hl hcap hc2 hnil (by omega)
  · unfold sgA; rw [if_neg h]; exact sign_bad x h a _ cap w
theorem rSignA (x : Int) (a : Option Addr) (cap : Nat) (l : List UInt8) (w : World) (hT : Tab w) (hl : RdB w.heap.size w a l) (hcap : l.length ≤ cap) (hc2 : cap ≤ maxLen) (hnil : a = none → cap = 0) (hn : l.length ≤ 70368744100000) : Calls Tryd.prog 15 #[.int .i64 x, .slice a l.length cap] w fun e w' => e = .returned (.tuple #[.agg #[.int .i64 (sgA x l).1, .int .i64 (sgA x l).2.1], .int .i64 (sgA x l).2.2]) ∧ Below w.heap.size w w' := by
  by_cases h : IsKey x
  · obtain ⟨n, rfl, h1, h2⟩ := h.nat
    unfold sgA; rw [if_pos h, Int.toNat_natCast]; exact rSign_ok n h1 h2 a cap l w hl hcap hc2 hnil hn
  · unfold sgA; rw [if_neg h]; exact rSign_bad x h a _ cap w

set_option maxRecDepth 100000 in
set_option maxHeartbeats 4000000 in
theorem publicSpec_walk (n0 : Int) (hi : I64n n0) (a : Option Addr) (cap : Nat) (l : List UInt8) (w : World) (hT : Tab w) (hl : RdB w.heap.size w a l) (hcap : l.length ≤ cap) (hc2 : cap ≤ maxLen) (hnil : a = none → cap = 0) :
    Calls Tryd.prog 3 #[.int .i64 n0, .slice a l.length cap] w fun e w' => e = .returned (.bool true) ∧ Below w.heap.size w w' := by
  have ks : ∀ W, Below w.heap.size w W → Calls Tryd.prog 10 #[] W fun e w' => e = .returned (.bool true) ∧ Below W.heap.size W w' := fun W h => ssane_any W (hT.below h hT.lt)
  have hm := hl.1
  unfold maxLen at hm
  have HB := Below.refl w.heap.size w
  by_cases h2 : 300 < l.length
  · clear hi
    have f3 : decide (300 < l.length) = true := decide_eq_true h2
    have f4 : decide (300 < (l.length : Int)) = true := decide_eq_true (by omega)
    clear hl hnil hc2 hT
    generalize l.length = n at *
    go_enter Tryd.func3, Tryd.ntmps3
    go_wp2_with (go_at_call 10; with_reducible refine (ks _ HB).mono ?_; rintro e w1 ⟨rfl, hb⟩; replace HB := HB.trans (hb.mono HB.size); clear hb)
    go_ret
    exact ⟨rfl, HB⟩
  have f3 : decide (300 < l.length) = false := decide_eq_false h2
  have f4 : decide (300 < (l.length : Int)) = false := decide_eq_false (by omega)
  have k0 := fun w => rKey n0 hi.1 hi.2 w
  obtain ⟨n1, hn1⟩ : ∃ y : Int, (keyN n0 : Int) = y := ⟨_, rfl⟩
  rw [hn1] at k0
  clear hn1
  have k1 := fun (x : Int) (W : World) => publicA x W
  have k2 := fun (x : Int) (W : World) => rPublicA x W
  have k3 : ∀ (x : Int) W, Below w.heap.size w W → _ := fun x W h => signA x a cap l W (hT.below h hT.lt) ((hl.below h).mono h.size) hcap hc2 hnil (by omega)
  have k4 : ∀ (x : Int) W, Below w.heap.size w W → _ := fun x W h => rSignA x a cap l W (hT.below h hT.lt) ((hl.below h).mono h.size) hcap hc2 hnil (by omega)
  have HK1 := Lib.hid k1
  have HK2 := Lib.hid k2
  have HK3 := Lib.hid k3
  have HK4 := Lib.hid k4
  clear k1 k2 k3 k4 hl hnil hc2 hT hi
  obtain ⟨n, hq⟩ : ∃ q, l.length = q := ⟨_, rfl⟩
  rw [hq] at HK3 HK4 f3 f4 h2 hcap hm ⊢
  clear hq
  have HB0 := Lib.hid HB
  go_enter Tryd.func3, Tryd.ntmps3
  go_wp2_with (first
    | (go_at_call 10; with_reducible refine (ks _ HB).mono ?_; rintro e w1 ⟨rfl, hb⟩; replace HB := HB.trans (hb.mono HB.size); clear hb)
    | (go_at_call 11; with_reducible refine (k0 _).mono ?_; rintro e w2 ⟨rfl, hw⟩; rw [hw]; clear hw w2))
  have hN := two_cells (w := w1) (a := n0) (b := n1)
  have HBN := Lib.hid (HB.alloc HB.size (.cells #[.int .i64 n0, .int .i64 n1] 3))
  have HN := Lib.hid hN
  clear hN HB
  obtain ⟨g, hg⟩ : ∃ g, w1.heap.size = g := ⟨_, rfl⟩
  rw [hg] at HN
  generalize hW : w1.alloc (.cells #[.int .i64 n0, .int .i64 n1] 3) = W1 at *
  rw [hg]
  clear hg hW
  go_loopw [25] (fun i wr => ∃ k : Nat, i = .int .i64 k ∧ k ≤ 2 ∧ Below w.heap.size w wr ∧ RdN wr g [n0, n1]) (fun i _ => 2 - (intOf i).toNat)
  case atStart => exact ⟨0, rfl, by omega, HBN.out, HN.out⟩
  case round =>
    clear HBN HN
    obtain ⟨k, rfl, hk, hb0, hr⟩ := hrel
    by_cases hlt : k < 2
    · have f5 : decide ((k : Int) < 2) = true := decide_eq_true (by omega)
      have ck := hr.2 k hlt
      generalize [n0, n1][k] = x at *
      have k1 := HK1.out x
      have k2 := HK2.out x
      have k3 := HK3.out x
      have k4 := HK4.out x
      obtain ⟨p1, hp1⟩ : ∃ y, (pubA x).1 = y := ⟨_, rfl⟩
      obtain ⟨p2, hp2⟩ : ∃ y, (pubA x).2 = y := ⟨_, rfl⟩
      obtain ⟨s1, hs1⟩ : ∃ y, (sgA x l).1 = y := ⟨_, rfl⟩
      obtain ⟨s2, hs2⟩ : ∃ y, (sgA x l).2.1 = y := ⟨_, rfl⟩
      obtain ⟨s3, hs3⟩ : ∃ y, (sgA x l).2.2 = y := ⟨_, rfl⟩
      rw [hp1, hp2] at k1 k2
      rw [hs1, hs2, hs3] at k3 k4
      clear hp1 hp2 hs1 hs2 hs3
      have HRD := Lib.hid hr
      have HBR := Lib.hid hb0
      clear hr
      replace HB := hb0
      have HX := Lib.hid (Below.refl wr.heap.size wr)
      go_wp2_with (first
        | (go_at_call 12; with_reducible refine (k1 _).mono ?_; rintro e w3 ⟨rfl, hb⟩; replace HX := Lib.hid (HX.out.trans (hb.mono HX.out.size)); replace HB := HB.trans (hb.mono HB.size); clear hb)
        | (go_at_call 13; with_reducible refine (k2 _).mono ?_; rintro e w4 ⟨rfl, hw⟩; rw [hw]; clear hw w4)
        | (go_at_call 14; with_reducible refine (k3 _ HB).mono ?_; rintro e w5 ⟨rfl, hb⟩; replace HX := Lib.hid ((HX.out.trans (hb.mono HX.out.size)).alloc (Nat.le_trans HX.out.size hb.size) (.cells #[.int .i64 s1, .int .i64 s2] 30)); replace HB := HB.trans (hb.mono HB.size); replace HB := HB.alloc HB.size (.cells #[.int .i64 s1, .int .i64 s2] 30); have HG := SG.new w5 s1 s2; clear hb)
        | (go_at_call 15; with_reducible refine (k4 _ HB).mono ?_; rintro e w6 ⟨rfl, hb⟩; replace HX := Lib.hid ((HX.out.trans (hb.mono HX.out.size)).alloc (Nat.le_trans HX.out.size hb.size) (.cells #[.int .i64 s1, .int .i64 s2] 30)); replace HB := HB.trans (hb.mono HB.size); replace HB := HB.alloc HB.size (.cells #[.int .i64 s1, .int .i64 s2] 30); replace HG := (HG.call hb).alloc (.cells #[.int .i64 s1, .int .i64 s2] 30); have c0 := HG.cell0; have c1 := HG.cell1; clear hb))
      go_roundw
      case rel => exact ⟨k + 1, by go_num, by omega, HB, HRD.out.below HX.out HRD.out.1⟩
      case measure => simp [intOf]; omega
    · obtain rfl : k = 2 := by omega
      go_wp2_with fail
      go_ret
      exact ⟨rfl, hb0⟩

theorem four_cells {w : World} {a b c d : Int} : RdN (w.alloc (.cells #[.int .i64 a, .int .i64 b, .int .i64 c, .int .i64 d] 3)) w.heap.size [a, b, c, d] := by
  refine ⟨by simp, fun j hj => ?_⟩
  rw [cell_of_row _ _ _ _ _ _ (heap_alloc_new w _)]
  match j, hj with
  | 0, _ => rfl
  | 1, _ => rfl
  | 2, _ => rfl
  | 3, _ => rfl

set_option maxRecDepth 100000 in
set_option maxHeartbeats 4000000 in
theorem only_walk (n0 : Int) (hi : I64n n0) (other : Int) (ho : I64n other) (a : Option Addr) (cap : Nat) (l : List UInt8) (w : World) (hT : Tab w) (hl : RdB w.heap.size w a l) (hcap : l.length ≤ cap) (hc2 : cap ≤ maxLen) (hnil : a = none → cap = 0) :
    Calls Tryd.prog 7 #[.int .i64 n0, .slice a l.length cap, .int .i64 other] w fun e w' => e = .returned (.bool true) ∧ Below w.heap.size w w' := by
  have ks : ∀ W, Below w.heap.size w W → Calls Tryd.prog 10 #[] W fun e w' => e = .returned (.bool true) ∧ Below W.heap.size W w' := fun W h => ssane_any W (hT.below h hT.lt)
  have hm := hl.1
  unfold maxLen at hm
  have HB := Below.refl w.heap.size w
  by_cases h2 : 300 < l.length
  · clear hi ho
    have f3 : decide (300 < l.length) = true := decide_eq_true h2
    have f4 : decide (300 < (l.length : Int)) = true := decide_eq_true (by omega)
    clear hl hnil hc2 hT
    generalize l.length = n at *
    go_enter Tryd.func7, Tryd.ntmps7
    go_wp2_with (go_at_call 10; with_reducible refine (ks _ HB).mono ?_; rintro e w1 ⟨rfl, hb⟩; replace HB := HB.trans (hb.mono HB.size); clear hb)
    go_ret
    exact ⟨rfl, HB⟩
  have f3 : decide (300 < l.length) = false := decide_eq_false h2
  have f4 : decide (300 < (l.length : Int)) = false := decide_eq_false (by omega)
  have k0 := fun w => rKey n0 hi.1 hi.2 w
  have hx := keyN_bd n0
  generalize keyN n0 = x at *
  have k1 := fun w => public_ok x hx.1 hx.2 w
  have k2 : ∀ W, Below w.heap.size w W → Calls Tryd.prog 14 #[.int .i64 x, .slice a l.length cap] W fun e w' => e = .returned (.tuple #[.agg #[.int .i64 (rS x l : Nat), .int .i64 (sS x l : Nat)], .int .i64 0]) ∧ Below W.heap.size W w' := fun W h => sign_ok x hx.1 hx.2 a cap l W (hT.below h hT.lt) ((hl.below h).mono h.size) hcap hc2 hnil (by omega)
  have kv : ∀ (y : Int) W, Below w.heap.size w W → Calls Tryd.prog 16 #[.int .i64 (pubS x : Nat), .slice a l.length cap, .agg #[.int .i64 (rS x l : Nat), .int .i64 y]] W fun e w' => e = .returned (.bool (y == ((sS x l : Nat) : Int))) ∧ Below W.heap.size W w' := fun y W h => by
    have := verify_any (pubS x : Nat) (rS x l : Nat) y a cap l W (hT.below h hT.lt) ((hl.below h).mono h.size) hcap hc2 hnil (by omega)
    rw [ver_only, show decide (y = ((sS x l : Nat) : Int)) = (y == ((sS x l : Nat) : Int)) by rw [Bool.eq_iff_iff]; simp] at this
    exact this
  have ko := fun w => lOf other ho.1 ho.2 w
  obtain ⟨o1, ho1⟩ : ∃ y : Int, (ofI other : Int) = y := ⟨_, rfl⟩
  rw [ho1] at ko
  have hsl := sS_lt x l
  have c1 := wrapI (((sS x l : Nat) : Int) + 2305843009213688669) (by omega) (by omega)
  have c2 := wrapI (((sS x l : Nat) : Int) - 2305843009213688669) (by omega) (by omega)
  clear hl hnil hc2 hT hi ho ho1
  generalize pubS x = p at *
  generalize rS x l = r at *
  generalize sS x l = s at *
  generalize l.length = n at *
  go_enter Tryd.func7, Tryd.ntmps7
  go_wp2_with (first
    | (go_at_call 10; with_reducible refine (ks _ HB).mono ?_; rintro e w1 ⟨rfl, hb⟩; replace HB := HB.trans (hb.mono HB.size); clear hb)
    | (go_at_call 11; with_reducible refine (k0 _).mono ?_; rintro e w2 ⟨rfl, hw⟩; rw [hw]; clear hw w2)
    | (go_at_call 12; with_reducible refine (k1 _).mono ?_; rintro e w3 ⟨rfl, hb⟩; replace HB := HB.trans (hb.mono HB.size); clear hb)
    | (go_at_call 14; with_reducible refine (k2 _ HB).mono ?_; rintro e w4 ⟨rfl, hb⟩; replace HB := HB.trans (hb.mono HB.size); replace HB := HB.alloc HB.size (.cells #[.int .i64 (r : Int), .int .i64 (s : Int)] 30); have HG := SG.new w4 r s; clear hb))
  obtain ⟨B, hB⟩ : ∃ B, w4.heap.size = B := ⟨_, rfl⟩
  rw [hB] at HG ⊢
  generalize hW : w4.alloc (.cells #[.int .i64 (r : Int), .int .i64 (s : Int)] 30) = W4 at *
  clear hB hW k0 k1 k2 ks
  have HGH := Lib.hid HG
  have HBH := Lib.hid HB
  have hS1 := And.intro HG.cell1 True.intro
  clear HG HB
  go_region_held3 (fun w' => w'.cell? ⟨B, 1, none⟩ = some (.int .i64 s) ∧ True)
    (first
      | exact hS1
      | exact And.intro (HGH.out.alloc (.cells #[.int .i64 other, .int .i64 o1, .int .i64 ((s : Int) + 2305843009213688669), .int .i64 ((s : Int) - 2305843009213688669)] 3)).cell1 True.intro)
    (first
      | (go_at_call 24
         with_reducible refine (ko _).mono ?_
         rintro e w5 ⟨rfl, hw⟩
         rw [hw]
         clear hw w5))
  have HN := Lib.hid (four_cells (w := W4) (a := other) (b := o1) (c := (s : Int) + 2305843009213688669) (d := (s : Int) - 2305843009213688669))
  have HB5 := Lib.hid (HBH.out.alloc HBH.out.size (.cells #[.int .i64 other, .int .i64 o1, .int .i64 ((s : Int) + 2305843009213688669), .int .i64 ((s : Int) - 2305843009213688669)] 3))
  have HG5 := Lib.hid (HGH.out.alloc (.cells #[.int .i64 other, .int .i64 o1, .int .i64 ((s : Int) + 2305843009213688669), .int .i64 ((s : Int) - 2305843009213688669)] 3))
  obtain ⟨g, hg⟩ : ∃ g, W4.heap.size = g := ⟨_, rfl⟩
  rw [hg] at HN ⊢
  generalize hW : W4.alloc (.cells #[.int .i64 other, .int .i64 o1, .int .i64 ((s : Int) + 2305843009213688669), .int .i64 ((s : Int) - 2305843009213688669)] 3) = W5 at *
  clear hg hW HBH HGH hS1 ko c1 c2
  go_wp2_with fail
  generalize hV : [other, o1, (s : Int) + 2305843009213688669, (s : Int) - 2305843009213688669] = V at *
  have hVL : V.length = 4 := by rw [← hV]; rfl
  clear hV
  go_loopw [49] (fun i wr => ∃ k : Nat, i = .int .i64 k ∧ k ≤ 4 ∧ Below w.heap.size w wr ∧ RdN wr g V ∧ SG wr B r s) (fun i _ => 4 - (intOf i).toNat)
  case atStart => exact ⟨0, rfl, by omega, HB5.out.drew, HN.out, HG5.out⟩
  case round =>
    clear HB5 HN HG5
    obtain ⟨k, rfl, hk, hb0, hr, hgr⟩ := hrel
    by_cases hlt : k < 4
    · have f5 : decide ((k : Int) < 4) = true := decide_eq_true (by omega)
      have ck := hr.2 k (by omega)
      generalize V[k] = y at *
      have ky := kv y
      obtain ⟨bb, hbb⟩ : ∃ bb, (y == (s : Int)) = bb := ⟨_, rfl⟩
      rw [hbb] at ky
      have HR := Lib.hid hr
      have HG := Lib.hid hgr
      have HB := Lib.hid hb0
      have hS1 := And.intro hgr.cell0 hgr.cell1
      clear hr hgr hb0 kv
      go_wp2_with fail
      go_region_held3 (fun w' => w'.cell? ⟨B, 0, none⟩ = some (.int .i64 r) ∧ w'.cell? ⟨B, 1, none⟩ = some (.int .i64 s))
        (first
          | exact hS2
          | exact hS1)
        (first
          | (go_at_call 16
             with_reducible refine (ky _ ?_).mono ?_
             · exact HB.out.drew
             rintro e w6 ⟨rfl, hb⟩
             have HG6 := Lib.hid (SG.call (w := wr.drew) HG.out hb)
             have HR6 := Lib.hid (RdN.below (w := wr.drew) HR.out hb HR.out.1)
             have HB6 := Lib.hid (HB.out.drew.trans (hb.mono HB.out.size))
             have hS2 := And.intro HG6.out.cell0 HG6.out.cell1
             clear hb))
      go_wp2_with fail
      go_roundw
      case rel => exact ⟨k + 1, by go_num, by omega, HB6.out, HR6.out, HG6.out⟩
      case measure => simp [intOf]; omega
    · obtain rfl : k = 4 := by omega
      go_wp2_with fail
      go_ret
      exact ⟨rfl, hb0⟩

theorem inv_is {a : Nat} (h : IsEl (a : Int)) : IsEl ((a ^ (oQ - 1) % 4611686018427377339 : Nat) : Int) := isEl_of (modP_lt _) (El.pow (by have := h.2.2; rwa [Int.toNat_natCast] at this) _)
theorem pow_is {a : Nat} (h : IsEl (a : Int)) (k : Nat) : IsEl ((a ^ k % 4611686018427377339 : Nat) : Int) := isEl_of (modP_lt _) (El.pow (by have := h.2.2; rwa [Int.toNat_natCast] at this) _)
theorem mul_is {a b : Nat} (h : IsEl (a : Int)) (k : IsEl (b : Int)) : IsEl ((a * b % 4611686018427377339 : Nat) : Int) := isEl_of (modP_lt _) (El.mul (by have := h.2.2; rwa [Int.toNat_natCast] at this) (by have := k.2.2; rwa [Int.toNat_natCast] at this))

set_option maxRecDepth 100000 in
set_option maxHeartbeats 4000000 in
theorem difference_walk (n0 : Int) (hi : I64n n0) (a : Option Addr) (cap : Nat) (l : List UInt8) (w : World) (hT : Tab w) (hl : RdB w.heap.size w a l) (hcap : l.length ≤ cap) (hc2 : cap ≤ maxLen) (hnil : a = none → cap = 0) (a2 : Option Addr) (cap2 : Nat) (l2 : List UInt8) (hl2 : RdB w.heap.size w a2 l2) (hcap2 : l2.length ≤ cap2) (hc22 : cap2 ≤ maxLen) (hnil2 : a2 = none → cap2 = 0) :
    Calls Tryd.prog 8 #[.int .i64 n0, .slice a l.length cap, .slice a2 l2.length cap2] w fun e w' => e = .returned (.bool true) ∧ Below w.heap.size w w' := by
  have ks : ∀ W, Below w.heap.size w W → Calls Tryd.prog 10 #[] W fun e w' => e = .returned (.bool true) ∧ Below W.heap.size W w' := fun W h => ssane_any W (hT.below h hT.lt)
  have hm := hl.1
  have hm2 := hl2.1
  unfold maxLen at hm hm2
  have HB := Below.refl w.heap.size w
  by_cases h2 : 300 < l.length
  · have f3 : decide (300 < l.length) = true := decide_eq_true h2
    have f4 : decide (300 < (l.length : Int)) = true := decide_eq_true (by omega)
    clear hl hnil hc2 hl2 hnil2 hc22 hT hi
    generalize l.length = n at *
    generalize l2.length = n2 at *
    go_enter Tryd.func8, Tryd.ntmps8
    go_wp2_with (go_at_call 10; with_reducible refine (ks _ HB).mono ?_; rintro e w1 ⟨rfl, hb⟩; replace HB := HB.trans (hb.mono HB.size); clear hb)
    go_ret
    exact ⟨rfl, HB⟩
  have f3 : decide (300 < l.length) = false := decide_eq_false h2
  have f4 : decide (300 < (l.length : Int)) = false := decide_eq_false (by omega)
  by_cases h22 : 300 < l2.length
  · have g3 : decide (300 < l2.length) = true := decide_eq_true h22
    have g4 : decide (300 < (l2.length : Int)) = true := decide_eq_true (by omega)
    clear hl hnil hc2 hl2 hnil2 hc22 hT hi
    generalize l.length = n at *
    generalize l2.length = n2 at *
    go_enter Tryd.func8, Tryd.ntmps8
    go_wp2_with (go_at_call 10; with_reducible refine (ks _ HB).mono ?_; rintro e w1 ⟨rfl, hb⟩; replace HB := HB.trans (hb.mono HB.size); clear hb)
    go_ret
    exact ⟨rfl, HB⟩
  have g3 : decide (300 < l2.length) = false := decide_eq_false h22
  have g4 : decide (300 < (l2.length : Int)) = false := decide_eq_false (by omega)
  have k0 := fun w => rKey n0 hi.1 hi.2 w
  have hx := keyN_bd n0
  generalize keyN n0 = x at *
  have k1 := fun w => public_ok x hx.1 hx.2 w
  have k2 : ∀ W, Below w.heap.size w W → Calls Tryd.prog 14 #[.int .i64 x, .slice a l.length cap] W fun e w' => e = .returned (.tuple #[.agg #[.int .i64 (rS x l : Nat), .int .i64 (sS x l : Nat)], .int .i64 0]) ∧ Below W.heap.size W w' := fun W h => sign_ok x hx.1 hx.2 a cap l W (hT.below h hT.lt) ((hl.below h).mono h.size) hcap hc2 hnil (by omega)
  have k3 : ∀ W, Below w.heap.size w W → Calls Tryd.prog 14 #[.int .i64 x, .slice a2 l2.length cap2] W fun e w' => e = .returned (.tuple #[.agg #[.int .i64 (rS x l2 : Nat), .int .i64 (sS x l2 : Nat)], .int .i64 0]) ∧ Below W.heap.size W w' := fun W h => sign_ok x hx.1 hx.2 a2 cap2 l2 W (hT.below h hT.lt) ((hl2.below h).mono h.size) hcap2 hc22 hnil2 (by omega)
  have q1 : ∀ W, Below w.heap.size w W → Calls Tryd.prog 22 #[.int .i64 (pubS x : Nat), .int .i64 (rS x l : Nat), .slice a l.length cap] W fun e w' => e = .returned (.int .i64 (hS x l : Nat)) ∧ Below W.heap.size W w' := fun W h => lchal (pubS x : Nat) (rS x l : Nat) a cap l W (hT.below h hT.lt) ((hl.below h).mono h.size) hcap hc2 hnil (by omega)
  have q2 : ∀ W, Below w.heap.size w W → Calls Tryd.prog 22 #[.int .i64 (pubS x : Nat), .int .i64 (rS x l2 : Nat), .slice a2 l2.length cap2] W fun e w' => e = .returned (.int .i64 (hS x l2 : Nat)) ∧ Below W.heap.size W w' := fun W h => lchal (pubS x : Nat) (rS x l2 : Nat) a2 cap2 l2 W (hT.below h hT.lt) ((hl2.below h).mono h.size) hcap2 hc22 hnil2 (by omega)
  have u1 := fun w => fSub (sS x l) (sS x l2) (sS_lt x l) (sS_lt x l2) w
  have u2 := fun w => fSub (hS x l) (hS x l2) (chalS_bd _ _ l).2 (chalS_bd _ _ l2).2 w
  have hr1 := rS_el x l
  have hr2 := rS_el x l2
  have hp := pubS_el x
  have u3 := fun w => gInv_ok (rS x l2) hr2 w
  have u4 := fun w => gMul_ok (rS x l) (rS x l2 ^ (oQ - 1) % 4611686018427377339) hr1 (inv_is hr2) w
  have u5 := fun w => gExp_ok (pubS x) (dif (hS x l) (hS x l2)) hp (difQ_lt _ _) w
  have u6 := fun w => gBase_any (dif (sS x l) (sS x l2) : Nat) w
  rw [base_pub (dif (sS x l) (sS x l2)) (difQ_lt _ _)] at u6
  have u7 := fun w => gMul_ok (rS x l * (rS x l2 ^ (oQ - 1) % 4611686018427377339) % 4611686018427377339) (pubS x ^ dif (hS x l) (hS x l2) % 4611686018427377339) (mul_is hr1 (inv_is hr2)) (pow_is hp _) w
  have he : pubS (dif (sS x l) (sS x l2)) = (rS x l * (rS x l2 ^ (oQ - 1) % 4611686018427377339) % 4611686018427377339) * (pubS x ^ dif (hS x l) (hS x l2) % 4611686018427377339) % 4611686018427377339 :=
    sig_diff (nonS x l) (nonS x l2) (hS x l) (hS x l2) x (chalS_bd _ _ l2).2
  rw [← he] at u7
  clear he hl hnil hc2 hl2 hnil2 hc22 hT hi hr1 hr2 hp hx
  generalize pubS (dif (sS x l) (sS x l2)) = left at *
  generalize rS x l * (rS x l2 ^ (oQ - 1) % 4611686018427377339) % 4611686018427377339 = rr at *
  generalize rS x l2 ^ (oQ - 1) % 4611686018427377339 = i2 at *
  generalize pubS x ^ dif (hS x l) (hS x l2) % 4611686018427377339 = pw at *
  generalize dif (hS x l) (hS x l2) = c at *
  generalize dif (sS x l) (sS x l2) = d at *
  generalize pubS x = p at *
  generalize hS x l = h1 at *
  generalize hS x l2 = h2' at *
  generalize sS x l = s1 at *
  generalize sS x l2 = s2 at *
  generalize rS x l = r1 at *
  generalize rS x l2 = r2 at *
  generalize l.length = n at *
  generalize l2.length = n2 at *
  go_enter Tryd.func8, Tryd.ntmps8
  go_wp2_with (first
    | (go_at_call 10; with_reducible refine (ks _ HB).mono ?_; rintro e w1 ⟨rfl, hb⟩; replace HB := HB.trans (hb.mono HB.size); clear hb)
    | (go_at_call 11; with_reducible refine (k0 _).mono ?_; rintro e w2 ⟨rfl, hw⟩; rw [hw]; clear hw w2)
    | (go_at_call 12; with_reducible refine (k1 _).mono ?_; rintro e w3 ⟨rfl, hb⟩; replace HB := HB.trans (hb.mono HB.size); clear hb)
    | (go_at_call 14; with_reducible refine (k2 _ HB).mono ?_; rintro e w4 ⟨rfl, hb⟩; replace HB := HB.trans (hb.mono HB.size); replace HB := HB.alloc HB.size (.cells #[.int .i64 (r1 : Int), .int .i64 (s1 : Int)] 30); have HG := SG.new w4 r1 s1; clear hb)
    | (go_at_call 14; with_reducible refine (k3 _ HB).mono ?_; rintro e w5 ⟨rfl, hb⟩; replace HB := HB.trans (hb.mono HB.size); replace HB := HB.alloc HB.size (.cells #[.int .i64 (r2 : Int), .int .i64 (s2 : Int)] 30); replace HG := (HG.call hb).alloc (.cells #[.int .i64 (r2 : Int), .int .i64 (s2 : Int)] 30); have HH := SG.new w5 r2 s2; have c1 := HG.cell1; have d1 := HH.cell1; clear hb)
    | (go_at_call 25; with_reducible refine (u1 _).mono ?_; rintro e w6 ⟨rfl, hb⟩; replace HB := HB.trans (hb.mono HB.size); replace HG := HG.call hb; replace HH := HH.call hb; clear hb c1 d1))
  have hS1 := And.intro HG.cell0 HH.cell0
  have HB1 := Lib.hid HB
  have HG1 := Lib.hid HG
  have HH1 := Lib.hid HH
  clear HB HG HH k0 k1 k2 k3 u1 ks
  go_region_held3 (fun w' => w'.cell? ⟨w4.heap.size, 0, none⟩ = some (.int .i64 r1) ∧ w'.cell? ⟨w5.heap.size, 0, none⟩ = some (.int .i64 r2))
    (first
      | exact hS4
      | exact hS3
      | exact hS2
      | exact hS1)
    (first
      | (go_at_call 22
         with_reducible refine (q1 _ ?_).mono ?_
         · exact HB1.out.drew
         rintro e w7 ⟨rfl, hb⟩
         have HG2 := Lib.hid (SG.call (w := w6.drew) HG1.out hb)
         have HH2 := Lib.hid (SG.call (w := w6.drew) HH1.out hb)
         have HB2 := Lib.hid (HB1.out.drew.trans (hb.mono HB1.out.size))
         have hS2 := And.intro HG2.out.cell0 HH2.out.cell0
         clear hb)
      | (go_at_call 22
         with_reducible refine (q2 _ ?_).mono ?_
         · exact HB2.out
         rintro e w8 ⟨rfl, hb⟩
         have HG3 := Lib.hid (HG2.out.call hb)
         have HH3 := Lib.hid (HH2.out.call hb)
         have HB3 := Lib.hid (HB2.out.trans (hb.mono HB2.out.size))
         have hS3 := And.intro HG3.out.cell0 HH3.out.cell0
         clear hb)
      | (go_at_call 25
         with_reducible refine (u2 _).mono ?_
         rintro e w9 ⟨rfl, hb⟩
         have HG4 := Lib.hid (HG3.out.call hb)
         have HH4 := Lib.hid (HH3.out.call hb)
         have HB4 := Lib.hid (HB3.out.trans (hb.mono HB3.out.size))
         have hS4 := And.intro HG4.out.cell0 HH4.out.cell0
         clear hb))
  obtain ⟨c4, d4⟩ := hS4
  have HB := HB4.out
  have HG := HG4.out
  clear HB1 HB2 HB3 HB4 HG1 HG2 HG3 HG4 HH1 HH2 HH3 HH4 q1 q2 u2 hS1 hS2 hS3
  go_wp2_with (first
    | (go_at_call 26; with_reducible refine (u3 _).mono ?_; rintro e w10 ⟨rfl, hb⟩; replace HB := HB.trans (hb.mono HB.size); replace HG := HG.call hb; have c5 := HG.cell0; clear hb c4 d4)
    | (go_at_call 23; with_reducible refine (u4 _).mono ?_; rintro e w11 ⟨rfl, hb⟩; replace HB := HB.trans (hb.mono HB.size); clear hb)
    | (go_at_call 21; with_reducible refine (u5 _).mono ?_; rintro e w12 ⟨rfl, hb⟩; replace HB := HB.trans (hb.mono HB.size); clear hb)
    | (go_at_call 20; with_reducible refine (u6 _).mono ?_; rintro e w13 ⟨rfl, hb⟩; replace HB := HB.trans (hb.mono HB.size); clear hb)
    | (go_at_call 23; with_reducible refine (u7 _).mono ?_; rintro e w14 ⟨rfl, hb⟩; replace HB := HB.trans (hb.mono HB.size); clear hb))
  go_ret
  exact ⟨by first | rfl | simp, HB⟩
end Go.Proofs.YtgpcbckpfnhhcaaDoor
