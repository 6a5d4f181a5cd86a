/-
  The walk of ShamirHides (chartroomlaw08).
-/
import Derived.Test.YtecojpkefobgpaaDoorHo
namespace Go.Proofs.YtecojpkefobgpaaDoor
open Go.RowKit
set_option linter.unusedVariables false
set_option linter.unusedSimpArgs false

theorem wpList_appShrG {ops : Array Oper} {rest : List Oper} {o : Oper} {a : Act} {w : World} {Q : Exit → Act → World → Prop} (hw : Region.wanted o (yielded ops a.tmps) = true) (s x : Operand)
    (ho : o.op = .call { callee := .builtin .append, args := #[s, x], argTypes := #[26, 26] })
    (B : Nat) (v : Value) (l l' : List Sh) (ad : Option Addr) (cap : Nat) (hs : a.eval s = v) (hown : OwnS B w v l) (hx : a.eval x = .slice ad l'.length cap) (hr : RdS w.heap.size w ad l') (hnil : ad = none → cap = 0)
    (hlen : (l.length + l'.length) * 16 ≤ 140737488355328) (hB : B ≤ w.heap.size)
    (h : ∀ v' w', OwnS B w' v' (l ++ l') → Grew w v w' v' → wpList Tryd.prog ops Q rest (a.put o.dst v') w') : wpList Tryd.prog ops Q (o :: rest) a w :=
  wpList_step fun K hK => by rw [if_pos hw]; exact wp_appShr s x ho B v l l' ad cap hs hown hx hr hnil hlen hB fun v' w' h2 h3 => hK _ _ (h v' w' h2 h3)
theorem wpList_appShr1G {ops : Array Oper} {rest : List Oper} {o : Oper} {a : Act} {w : World} {Q : Exit → Act → World → Prop} (hw0 : Region.wanted o (yielded ops a.tmps) = true) (s x : Operand)
    (ho : o.op = .call { callee := .builtin .append, args := #[s, x], argTypes := #[26, 26] })
    (B : Nat) (v : Value) (l : List Sh) (t : Sh) (w0 : World) (g : Nat) (hs : a.eval s = v) (hown : OwnS B w0 v l) (hx : a.eval x = .slice (some ⟨g, 0, none⟩) 1 1) (hg : g = w0.heap.size)
    (hw : w = w0.alloc (.cells #[.int .i64 t.1, .int .i64 t.2] 38)) (hlen : l.length ≤ 1000000) (hB : B ≤ w0.heap.size)
    (h : ∀ v' w', OwnS B w' v' (l ++ [t]) → Below B w0 w' → wpList Tryd.prog ops Q rest (a.put o.dst v') w') : wpList Tryd.prog ops Q (o :: rest) a w := by
  subst hg
  subst hw
  refine wpList_appShrG hw0 s x ho B v l [t] (some ⟨w0.heap.size, 0, none⟩) 1 hs (hown.alloc _) hx (by rw [World.size_alloc]; exact RdS.one t) (fun e => by cases e) (by simp only [List.length_singleton]; omega) (le_alloc hB _) fun v' w' h2 h3 => h v' w' h2 ?_
  exact ((Below.refl _ _).alloc hB _).trans (h3.below hown.base (le_alloc hB _))

/-- Fewer shares say nothing about the secret. -/
theorem hides {l : List Sh} {p : Int} (h : okS (l ++ [(p, 0)]) = true) (s o : Nat) (hs : s < 2305843009213688669) (ho : o < 2305843009213688669) :
    dif (joinV (l ++ [(p, 1)])) (joinV (l ++ [(p, 0)])) ≠ 0 ∧
    joinV (l ++ [(p, ((dif s (joinV (l ++ [(p, 0)])) * (dif (joinV (l ++ [(p, 1)])) (joinV (l ++ [(p, 0)])) ^ (kQ - 1) % 2305843009213688669) % 2305843009213688669 : Nat) : Int))]) = s ∧
    (joinV (l ++ [(p, (o : Int))]) = s ↔ o = dif s (joinV (l ++ [(p, 0)])) * (dif (joinV (l ++ [(p, 1)])) (joinV (l ++ [(p, 0)])) ^ (kQ - 1) % 2305843009213688669) % 2305843009213688669) := by
  obtain ⟨A, c, hc, hj⟩ := more_join h
  have h0 := hj 0 (by decide)
  have h1 := hj 1 (by decide)
  have e0 : toF 0 = (0 : FQ) := rfl
  have e1 : toF 1 = (1 : FQ) := rfl
  rw [e0, show ((0 : Nat) : Int) = 0 from rfl] at h0
  rw [e1, show ((1 : Nat) : Int) = 1 from rfl] at h1
  have l0 := joinV_lt (l ++ [(p, 0)])
  have l1 := joinV_lt (l ++ [(p, 1)])
  generalize joinV (l ++ [(p, 0)]) = z0 at *
  generalize joinV (l ++ [(p, 1)]) = z1 at *
  have hA : toF z0 = A := by rw [h0]; grind
  have hS : toF (dif z1 z0) = c := by rw [toF_dif l1 l0, h1, hA]; grind
  have hne : dif z1 z0 ≠ 0 := toF_ne (dif_lt _ _) (by rw [hS]; exact hc)
  have hyl : dif s z0 * (dif z1 z0 ^ (kQ - 1) % 2305843009213688669) % 2305843009213688669 < 2305843009213688669 := Nat.mod_lt _ (by decide)
  have hY : toF (dif s z0 * (dif z1 z0 ^ (kQ - 1) % 2305843009213688669) % 2305843009213688669) = (toF s - A) * finv c := by rw [toF_mul, toF_inv, hS, toF_dif hs l0, hA]
  refine ⟨hne, ?_, ?_⟩
  · refine toF_inj (joinV_lt _) hs ?_
    rw [hj _ hyl, hY]
    have := finv_mul hc
    grind
  · have hjo := hj o ho
    constructor
    · intro e
      refine toF_inj ho hyl ?_
      rw [hY, ← (more_one hc).1 (by rw [← hjo, e])]
    · intro e
      refine toF_inj (joinV_lt _) hs ?_
      rw [hjo]
      refine (more_one hc).2 ?_
      rw [e, hY]

set_option maxRecDepth 100000 in
set_option maxHeartbeats 8000000 in
theorem hides_ok (a : Option Addr) (cap : Nat) (l : List Sh) (p : Int) (s o : Nat) (hs : s < 2305843009213688669) (ho : o < 2305843009213688669) (h11 : l.length ≤ 11) (hok : okS (l ++ [(p, 0)]) = true) (w : World) (hT : Tab w)
    (hl : RdS w.heap.size w a l) (hnil : a = none → cap = 0) :
    Calls Tryd.prog 4 #[.slice a l.length cap, .int .i64 p, .int .i64 s, .int .i64 o] w fun e w' => e = .returned (.bool true) ∧ Below w.heap.size w w' := by
  have HT := Lib.hid hT
  have HS1 := Lib.hid ((SnB.start w).add hl)
  have HNL := Lib.hid hnil
  have f1 : decide (11 < (l.length : Int)) = false := decide_eq_false (by omega)
  have f1' : decide (11 < l.length) = false := decide_eq_false (by omega)
  have f2 : decide ((s : Int) < 0) = false := decide_eq_false (by omega)
  have f3 : decide (2305843009213688669 ≤ (s : Int)) = false := decide_eq_false (by omega)
  have f4 : decide ((o : Int) < 0) = false := decide_eq_false (by omega)
  have f5 : decide (2305843009213688669 ≤ (o : Int)) = false := decide_eq_false (by omega)
  have f3' : decide (2305843009213688669 ≤ s) = false := decide_eq_false (by omega)
  have f5' : decide (2305843009213688669 ≤ o) = false := decide_eq_false (by omega)
  obtain ⟨g1, g2, g3⟩ := hides hok s o hs ho
  have HJ : Hid (∀ y : Int, scal y = true → ∀ W, RdS W.heap.size W a l → Calls Tryd.prog 15 #[.slice a l.length cap, .int .i64 p, .int .i64 y] W fun e w' => e = .returned (.tuple #[.int .i64 (joinV (l ++ [(p, y)]) : Nat), .int .i64 0]) ∧ Below W.heap.size W w') := Lib.hid (fun y hy W h => by
    have k := joined_any a cap l p y W h HNL.out (by omega)
    rw [errV_ok (ok_more hok hy)] at k
    exact k)
  have K0 := Lib.hid (HJ.out 0 (by decide))
  have K1 := Lib.hid (HJ.out 1 (by decide))
  have l0 := joinV_lt (l ++ [(p, 0)])
  have l1 := joinV_lt (l ++ [(p, 1)])
  have K4 := Lib.hid (HJ.out (o : Int) (scal_nat ho))
  have KC : Hid (∀ a cap W, RdS W.heap.size W a (l ++ [(p, 0)]) → Calls Tryd.prog 14 #[.slice a (l.length + 1) cap] W fun e w' => e = .returned (.int .i64 0) ∧ Below W.heap.size W w') := Lib.hid (fun a cap W h => by
    have k := rCheck8_any a cap (l ++ [(p, 0)]) W h
    rw [errV_ok hok, List.length_append, List.length_singleton] at k
    exact k)
  generalize joinV (l ++ [(p, 0)]) = z0 at *
  generalize joinV (l ++ [(p, 1)]) = z1 at *
  have K2 := Lib.hid (fun W => fSub z1 z0 l1 l0 W)
  have hdl := dif_lt z1 z0
  have hdl2 := dif_lt s z0
  have K5 := Lib.hid (fun W => fInv (dif z1 z0) g1 hdl W)
  have K6 := Lib.hid (fun W => fSub s z0 hs l0 W)
  have hil : dif z1 z0 ^ (kQ - 1) % 2305843009213688669 < 2305843009213688669 := Nat.mod_lt _ (by decide)
  have K7 := Lib.hid (fun W => fMul (dif s z0) (dif z1 z0 ^ (kQ - 1) % 2305843009213688669) hdl2 hil W)
  have hYl : dif s z0 * (dif z1 z0 ^ (kQ - 1) % 2305843009213688669) % 2305843009213688669 < 2305843009213688669 := Nat.mod_lt _ (by decide)
  have K8 := Lib.hid (HJ.out ((dif s z0 * (dif z1 z0 ^ (kQ - 1) % 2305843009213688669) % 2305843009213688669 : Nat) : Int) (scal_nat hYl))
  rw [g2] at K8
  generalize dif s z0 * (dif z1 z0 ^ (kQ - 1) % 2305843009213688669) % 2305843009213688669 = Y at *
  generalize dif z1 z0 ^ (kQ - 1) % 2305843009213688669 = ci at *
  generalize dif z1 z0 = c at *
  generalize dif s z0 = r at *
  have HOE : Hid (∀ W : World, OwnS W.heap.size (W.alloc (.cells #[] 38)) (.slice (some ⟨W.heap.size, 0, none⟩) 0 0) []) := Lib.hid (fun W => OwnS.empty (Nat.le_refl _))
  have HAE : Hid (∀ W : World, Below W.heap.size W (W.alloc (.cells #[] 38))) := Lib.hid (fun W => (Below.refl _ _).alloc (Nat.le_refl _) _)
  have HLE : Hid ((([] : List Sh).length + l.length) * 16 ≤ 140737488355328) := Lib.hid (by rw [List.length_nil]; omega)
  have HLL : Hid (l.length ≤ 1000000) := Lib.hid (by omega)
  obtain ⟨x, hx⟩ : ∃ x, joinV (l ++ [(p, (o : Int))]) = x := ⟨_, rfl⟩
  rw [hx] at K4 g3
  obtain ⟨n, hn⟩ : ∃ n, l.length = n := ⟨_, rfl⟩
  have HN := Lib.hid hn
  rw [hn] at f1 f1' K0 K1 K4 K8 KC ⊢
  have hn11 : n ≤ 11 := by omega
  have HG3 := Lib.hid g3
  clear hT hl hnil h11 hok HJ hn hx g1 g2 g3 hdl hdl2 hil hYl l0 l1
  go_enter Tryd.func4, Tryd.ntmps4
  go_wp2_with (go_at_call 8; refine (sane8_any _ HT.out).mono ?_; rintro e w2 ⟨rfl, hb⟩; refine Hid.out ?_)
  refine Lib.hid ?_
  have HS2 := Lib.hid (HS1.out.call hb)
  clear hb HS1
  have HR2 := Lib.hid ((HS2.out.call (HAE.out w2)).get a l (by simp))
  go_wp2_with ((with_reducible show wpList _ _ _ (({ dst := some 33, op := _, type := _, pos := _, after := _, guard := _ } : Oper) :: _) _ _); go_must (refine wpList_appShrG (by rfl) (.tmp 31) (.tmp 32) rfl w2.heap.size _ [] l a cap rfl (HOE.out w2) (by rw [HN.out]; rfl) HR2.out HNL.out HLE.out (HAE.out w2).size ?_))
  intro v3 w3 ho3 hg3
  have HO3 : Hid (OwnS w2.heap.size w3 v3 l) := Lib.hid ho3
  have HA3 := Lib.hid ((HAE.out w2).trans (hg3.below (HOE.out w2).base (HAE.out w2).size))
  clear ho3 hg3
  go_wp2_with ((with_reducible show wpList _ _ _ (({ dst := some 37, op := _, type := _, pos := _, after := _, guard := _ } : Oper) :: _) _ _); go_must (refine wpList_appShr1G (by rfl) (.tmp 33) (.tmp 36) rfl w2.heap.size _ _ (p, 0) _ _ rfl HO3.out rfl rfl rfl HLL.out HA3.out.size ?_))
  intro v4 w4 ho4 hb4
  obtain ⟨a4, cap4, rfl, _, _, _, hr4⟩ := ho4.formN (n + 1) (by rw [List.length_append, HN.out]; rfl)
  have HS4 := Lib.hid (HS2.out.call (HA3.out.trans hb4))
  have HR4 := Lib.hid hr4
  clear ho4 hb4 hr4
  go_wp2_with (go_at_call 14; refine (KC.out _ _ _ HR4.out).mono ?_; rintro e w5 ⟨rfl, hb⟩; refine Hid.out ?_)
  refine Lib.hid ?_
  have HS5 := Lib.hid (HS4.out.call hb)
  clear hb HS4 HR4 HS2 HR2 HO3 HA3
  go_wp2_with (go_at_call 15; refine (K0.out _ (HS5.out.get _ _ (by simp))).mono ?_; rintro e w6 ⟨rfl, hb⟩; refine Hid.out ?_)
  refine Lib.hid ?_
  have HS6 := Lib.hid (HS5.out.call hb)
  clear hb HS5
  go_wp2_with (go_at_call 15; refine (K1.out _ (HS6.out.get _ _ (by simp))).mono ?_; rintro e w7 ⟨rfl, hb⟩; refine Hid.out ?_)
  refine Lib.hid ?_
  have HS7 := Lib.hid (HS6.out.call hb)
  clear hb HS6
  go_wp2_with (go_at_call 16; refine (K2.out _).mono ?_; rintro e w8 ⟨rfl, hb⟩; refine Hid.out ?_)
  refine Lib.hid ?_
  have HS8 := Lib.hid (HS7.out.call hb)
  clear hb HS7
  go_wp2_with (go_at_call 17; refine (K5.out _).mono ?_; rintro e w9 ⟨rfl, hb⟩; refine Hid.out ?_)
  refine Lib.hid ?_
  have HS9 := Lib.hid (HS8.out.call hb)
  clear hb HS8
  go_wp2_with (go_at_call 16; refine (K6.out _).mono ?_; rintro e u1 ⟨rfl, hb⟩; refine Hid.out ?_)
  refine Lib.hid ?_
  have HU1 := Lib.hid (HS9.out.call hb)
  clear hb HS9
  go_wp2_with (go_at_call 18; refine (K7.out _).mono ?_; rintro e u2 ⟨rfl, hb⟩; refine Hid.out ?_)
  refine Lib.hid ?_
  have HU2 := Lib.hid (HU1.out.call hb)
  clear hb HU1
  go_wp2_with (go_at_call 15; refine (K8.out _ (HU2.out.get _ _ (by simp))).mono ?_; rintro e u3 ⟨rfl, hb⟩; refine Hid.out ?_)
  refine Lib.hid ?_
  have HU3 := Lib.hid (HU2.out.call hb)
  clear hb HU2
  go_wp2_with (go_at_call 15; refine (K4.out _ (HU3.out.get _ _ (by simp))).mono ?_; rintro e u4 ⟨rfl, hb⟩; refine Hid.out ?_)
  refine Lib.hid ?_
  have HU4 := Lib.hid (HU3.out.call hb)
  clear hb HU3
  by_cases hoy : o = Y
  · obtain rfl := HG3.out.2 hoy
    subst hoy
    go_wp2_with fail
    go_ret
    exact ⟨rfl, HU4.out.below⟩
  · have hxs : ¬ x = s := fun h => hoy (HG3.out.1 h)
    have e1 : ((o : Int) == (Y : Int)) = false := by rw [beq_eq_false_iff_ne]; omega
    have e2 : ((x : Int) == (s : Int)) = false := by rw [beq_eq_false_iff_ne]; omega
    go_wp2_with fail
    go_ret
    exact ⟨rfl, HU4.out.below⟩

set_option maxRecDepth 100000 in
set_option maxHeartbeats 2000000 in
theorem hides_long (a : Option Addr) (cap : Nat) (l : List Sh) (p s o : Int) (h11 : 11 < l.length) (w : World) (hT : Tab w) (hl : RdS w.heap.size w a l) :
    Calls Tryd.prog 4 #[.slice a l.length cap, .int .i64 p, .int .i64 s, .int .i64 o] w fun e w' => e = .returned (.bool true) ∧ Below w.heap.size w w' := by
  have HT := Lib.hid hT
  have HS1 := Lib.hid (SnB.start w)
  have hm := hl.1
  unfold maxLen at hm
  have f1 : decide (11 < (l.length : Int)) = true := decide_eq_true (by omega)
  have f1' : decide (11 < l.length) = true := decide_eq_true (by omega)
  clear hT hl
  generalize l.length = n at *
  go_enter Tryd.func4, Tryd.ntmps4
  go_wp2_with (go_at_call 8; refine (sane8_any _ HT.out).mono ?_; rintro e w2 ⟨rfl, hb⟩; refine Hid.out ?_)
  refine Lib.hid ?_
  have HS2 := Lib.hid (HS1.out.call hb)
  clear hb HS1
  go_wp2_with fail
  go_ret
  exact ⟨rfl, HS2.out.below⟩

set_option maxRecDepth 100000 in
set_option maxHeartbeats 4000000 in
theorem hides_bad (a : Option Addr) (cap : Nat) (l : List Sh) (p s o : Int) (h11 : l.length ≤ 11) (hok : okS (l ++ [(p, 0)]) = false) (w : World) (hT : Tab w)
    (hl : RdS w.heap.size w a l) (hnil : a = none → cap = 0) :
    Calls Tryd.prog 4 #[.slice a l.length cap, .int .i64 p, .int .i64 s, .int .i64 o] w fun e w' => e = .returned (.bool true) ∧ Below w.heap.size w w' := by
  have HT := Lib.hid hT
  have HS1 := Lib.hid ((SnB.start w).add hl)
  have HNL := Lib.hid hnil
  have f1 : decide (11 < (l.length : Int)) = false := decide_eq_false (by omega)
  have f1' : decide (11 < l.length) = false := decide_eq_false (by omega)
  have HOE : Hid (∀ W : World, OwnS W.heap.size (W.alloc (.cells #[] 38)) (.slice (some ⟨W.heap.size, 0, none⟩) 0 0) []) := Lib.hid (fun W => OwnS.empty (Nat.le_refl _))
  have HAE : Hid (∀ W : World, Below W.heap.size W (W.alloc (.cells #[] 38))) := Lib.hid (fun W => (Below.refl _ _).alloc (Nat.le_refl _) _)
  have HLE : Hid ((([] : List Sh).length + l.length) * 16 ≤ 140737488355328) := Lib.hid (by rw [List.length_nil]; omega)
  have HLL : Hid (l.length ≤ 1000000) := Lib.hid (by omega)
  have KC : Hid (∀ a cap W, RdS W.heap.size W a (l ++ [(p, 0)]) → Calls Tryd.prog 14 #[.slice a (l.length + 1) cap] W fun e w' => e = .returned (.int .i64 (errV (l ++ [(p, 0)]))) ∧ Below W.heap.size W w') := Lib.hid (fun a cap W h => by
    have k := rCheck8_any a cap (l ++ [(p, 0)]) W h
    rw [List.length_append, List.length_singleton] at k
    exact k)
  rw [errV_bad hok] at KC
  clear hok
  obtain ⟨n, hn⟩ : ∃ n, l.length = n := ⟨_, rfl⟩
  have HN := Lib.hid hn
  rw [hn] at f1 f1' KC ⊢
  have hn11 : n ≤ 11 := by omega
  clear hT hl hnil h11 hn
  go_enter Tryd.func4, Tryd.ntmps4
  go_wp2_with (go_at_call 8; refine (sane8_any _ HT.out).mono ?_; rintro e w2 ⟨rfl, hb⟩; refine Hid.out ?_)
  refine Lib.hid ?_
  have HS2 := Lib.hid (HS1.out.call hb)
  clear hb HS1
  have HR2 := Lib.hid ((HS2.out.call (HAE.out w2)).get a l (by simp))
  go_wp2_with ((with_reducible show wpList _ _ _ (({ dst := some 33, op := _, type := _, pos := _, after := _, guard := _ } : Oper) :: _) _ _); go_must (refine wpList_appShrG (by rfl) (.tmp 31) (.tmp 32) rfl w2.heap.size _ [] l a cap rfl (HOE.out w2) (by rw [HN.out]; rfl) HR2.out HNL.out HLE.out (HAE.out w2).size ?_))
  intro v3 w3 ho3 hg3
  have HO3 : Hid (OwnS w2.heap.size w3 v3 l) := Lib.hid ho3
  have HA3 := Lib.hid ((HAE.out w2).trans (hg3.below (HOE.out w2).base (HAE.out w2).size))
  clear ho3 hg3
  go_wp2_with ((with_reducible show wpList _ _ _ (({ dst := some 37, op := _, type := _, pos := _, after := _, guard := _ } : Oper) :: _) _ _); go_must (refine wpList_appShr1G (by rfl) (.tmp 33) (.tmp 36) rfl w2.heap.size _ _ (p, 0) _ _ rfl HO3.out rfl rfl rfl HLL.out HA3.out.size ?_))
  intro v4 w4 ho4 hb4
  obtain ⟨a4, cap4, rfl, _, _, _, hr4⟩ := ho4.formN (n + 1) (by rw [List.length_append, HN.out]; rfl)
  have HS4 := Lib.hid (HS2.out.call (HA3.out.trans hb4))
  have HR4 := Lib.hid hr4
  clear ho4 hb4 hr4
  go_wp2_with (go_at_call 14; refine (KC.out _ _ _ HR4.out).mono ?_; rintro e w5 ⟨rfl, hb⟩; refine Hid.out ?_)
  refine Lib.hid ?_
  have HS5 := Lib.hid (HS4.out.call hb)
  clear hb HS4 HR4 HS2 HR2 HO3 HA3
  go_wp2_with fail
  go_ret
  exact ⟨rfl, HS5.out.below⟩

set_option maxRecDepth 100000 in
set_option maxHeartbeats 8000000 in
theorem hides_range (a : Option Addr) (cap : Nat) (l : List Sh) (p s o : Int) (h11 : l.length ≤ 11) (hok : okS (l ++ [(p, 0)]) = true) (hr : ¬ (0 ≤ s ∧ s < 2305843009213688669 ∧ 0 ≤ o ∧ o < 2305843009213688669)) (w : World) (hT : Tab w)
    (hl : RdS w.heap.size w a l) (hnil : a = none → cap = 0) :
    Calls Tryd.prog 4 #[.slice a l.length cap, .int .i64 p, .int .i64 s, .int .i64 o] w fun e w' => e = .returned (.bool true) ∧ Below w.heap.size w w' := by
  have HT := Lib.hid hT
  have HS1 := Lib.hid ((SnB.start w).add hl)
  have HNL := Lib.hid hnil
  have f1 : decide (11 < (l.length : Int)) = false := decide_eq_false (by omega)
  have f1' : decide (11 < l.length) = false := decide_eq_false (by omega)
  have HOE : Hid (∀ W : World, OwnS W.heap.size (W.alloc (.cells #[] 38)) (.slice (some ⟨W.heap.size, 0, none⟩) 0 0) []) := Lib.hid (fun W => OwnS.empty (Nat.le_refl _))
  have HAE : Hid (∀ W : World, Below W.heap.size W (W.alloc (.cells #[] 38))) := Lib.hid (fun W => (Below.refl _ _).alloc (Nat.le_refl _) _)
  have HLE : Hid ((([] : List Sh).length + l.length) * 16 ≤ 140737488355328) := Lib.hid (by rw [List.length_nil]; omega)
  have HLL : Hid (l.length ≤ 1000000) := Lib.hid (by omega)
  have KC : Hid (∀ a cap W, RdS W.heap.size W a (l ++ [(p, 0)]) → Calls Tryd.prog 14 #[.slice a (l.length + 1) cap] W fun e w' => e = .returned (.int .i64 (errV (l ++ [(p, 0)]))) ∧ Below W.heap.size W w') := Lib.hid (fun a cap W h => by
    have k := rCheck8_any a cap (l ++ [(p, 0)]) W h
    rw [List.length_append, List.length_singleton] at k
    exact k)
  rw [errV_ok hok] at KC
  clear hok
  obtain ⟨n, hn⟩ : ∃ n, l.length = n := ⟨_, rfl⟩
  have HN := Lib.hid hn
  rw [hn] at f1 f1' KC ⊢
  have hn11 : n ≤ 11 := by omega
  clear hT hl hnil h11 hn
  by_cases b1 : s < 0
  · have g1 : decide (s < 0) = true := decide_eq_true b1
    clear hr
    go_enter Tryd.func4, Tryd.ntmps4
    go_wp2_with (go_at_call 8; refine (sane8_any _ HT.out).mono ?_; rintro e w2 ⟨rfl, hb⟩; refine Hid.out ?_)
    refine Lib.hid ?_
    have HS2 := Lib.hid (HS1.out.call hb)
    clear hb HS1
    have HR2 := Lib.hid ((HS2.out.call (HAE.out w2)).get a l (by simp))
    go_wp2_with ((with_reducible show wpList _ _ _ (({ dst := some 33, op := _, type := _, pos := _, after := _, guard := _ } : Oper) :: _) _ _); go_must (refine wpList_appShrG (by rfl) (.tmp 31) (.tmp 32) rfl w2.heap.size _ [] l a cap rfl (HOE.out w2) (by rw [HN.out]; rfl) HR2.out HNL.out HLE.out (HAE.out w2).size ?_))
    intro v3 w3 ho3 hg3
    have HO3 : Hid (OwnS w2.heap.size w3 v3 l) := Lib.hid ho3
    have HA3 := Lib.hid ((HAE.out w2).trans (hg3.below (HOE.out w2).base (HAE.out w2).size))
    clear ho3 hg3
    go_wp2_with ((with_reducible show wpList _ _ _ (({ dst := some 37, op := _, type := _, pos := _, after := _, guard := _ } : Oper) :: _) _ _); go_must (refine wpList_appShr1G (by rfl) (.tmp 33) (.tmp 36) rfl w2.heap.size _ _ (p, 0) _ _ rfl HO3.out rfl rfl rfl HLL.out HA3.out.size ?_))
    intro v4 w4 ho4 hb4
    obtain ⟨a4, cap4, rfl, _, _, _, hr4⟩ := ho4.formN (n + 1) (by rw [List.length_append, HN.out]; rfl)
    have HS4 := Lib.hid (HS2.out.call (HA3.out.trans hb4))
    have HR4 := Lib.hid hr4
    clear ho4 hb4 hr4
    go_wp2_with (go_at_call 14; refine (KC.out _ _ _ HR4.out).mono ?_; rintro e w5 ⟨rfl, hb⟩; refine Hid.out ?_)
    refine Lib.hid ?_
    have HS5 := Lib.hid (HS4.out.call hb)
    clear hb HS4 HR4 HS2 HR2 HO3 HA3
    go_wp2_with fail
    go_ret
    exact ⟨rfl, HS5.out.below⟩
  have g1 : decide (s < 0) = false := decide_eq_false b1
  by_cases b2 : 2305843009213688669 ≤ s
  · have g2 : decide (2305843009213688669 ≤ s) = true := decide_eq_true b2
    clear hr
    go_enter Tryd.func4, Tryd.ntmps4
    go_wp2_with (go_at_call 8; refine (sane8_any _ HT.out).mono ?_; rintro e w2 ⟨rfl, hb⟩; refine Hid.out ?_)
    refine Lib.hid ?_
    have HS2 := Lib.hid (HS1.out.call hb)
    clear hb HS1
    have HR2 := Lib.hid ((HS2.out.call (HAE.out w2)).get a l (by simp))
    go_wp2_with ((with_reducible show wpList _ _ _ (({ dst := some 33, op := _, type := _, pos := _, after := _, guard := _ } : Oper) :: _) _ _); go_must (refine wpList_appShrG (by rfl) (.tmp 31) (.tmp 32) rfl w2.heap.size _ [] l a cap rfl (HOE.out w2) (by rw [HN.out]; rfl) HR2.out HNL.out HLE.out (HAE.out w2).size ?_))
    intro v3 w3 ho3 hg3
    have HO3 : Hid (OwnS w2.heap.size w3 v3 l) := Lib.hid ho3
    have HA3 := Lib.hid ((HAE.out w2).trans (hg3.below (HOE.out w2).base (HAE.out w2).size))
    clear ho3 hg3
    go_wp2_with ((with_reducible show wpList _ _ _ (({ dst := some 37, op := _, type := _, pos := _, after := _, guard := _ } : Oper) :: _) _ _); go_must (refine wpList_appShr1G (by rfl) (.tmp 33) (.tmp 36) rfl w2.heap.size _ _ (p, 0) _ _ rfl HO3.out rfl rfl rfl HLL.out HA3.out.size ?_))
    intro v4 w4 ho4 hb4
    obtain ⟨a4, cap4, rfl, _, _, _, hr4⟩ := ho4.formN (n + 1) (by rw [List.length_append, HN.out]; rfl)
    have HS4 := Lib.hid (HS2.out.call (HA3.out.trans hb4))
    have HR4 := Lib.hid hr4
    clear ho4 hb4 hr4
    go_wp2_with (go_at_call 14; refine (KC.out _ _ _ HR4.out).mono ?_; rintro e w5 ⟨rfl, hb⟩; refine Hid.out ?_)
    refine Lib.hid ?_
    have HS5 := Lib.hid (HS4.out.call hb)
    clear hb HS4 HR4 HS2 HR2 HO3 HA3
    go_wp2_with fail
    go_ret
    exact ⟨rfl, HS5.out.below⟩
  have g2 : decide (2305843009213688669 ≤ s) = false := decide_eq_false b2
  by_cases b3 : o < 0
  · have g3 : decide (o < 0) = true := decide_eq_true b3
    clear hr
    go_enter Tryd.func4, Tryd.ntmps4
    go_wp2_with (go_at_call 8; refine (sane8_any _ HT.out).mono ?_; rintro e w2 ⟨rfl, hb⟩; refine Hid.out ?_)
    refine Lib.hid ?_
    have HS2 := Lib.hid (HS1.out.call hb)
    clear hb HS1
    have HR2 := Lib.hid ((HS2.out.call (HAE.out w2)).get a l (by simp))
    go_wp2_with ((with_reducible show wpList _ _ _ (({ dst := some 33, op := _, type := _, pos := _, after := _, guard := _ } : Oper) :: _) _ _); go_must (refine wpList_appShrG (by rfl) (.tmp 31) (.tmp 32) rfl w2.heap.size _ [] l a cap rfl (HOE.out w2) (by rw [HN.out]; rfl) HR2.out HNL.out HLE.out (HAE.out w2).size ?_))
    intro v3 w3 ho3 hg3
    have HO3 : Hid (OwnS w2.heap.size w3 v3 l) := Lib.hid ho3
    have HA3 := Lib.hid ((HAE.out w2).trans (hg3.below (HOE.out w2).base (HAE.out w2).size))
    clear ho3 hg3
    go_wp2_with ((with_reducible show wpList _ _ _ (({ dst := some 37, op := _, type := _, pos := _, after := _, guard := _ } : Oper) :: _) _ _); go_must (refine wpList_appShr1G (by rfl) (.tmp 33) (.tmp 36) rfl w2.heap.size _ _ (p, 0) _ _ rfl HO3.out rfl rfl rfl HLL.out HA3.out.size ?_))
    intro v4 w4 ho4 hb4
    obtain ⟨a4, cap4, rfl, _, _, _, hr4⟩ := ho4.formN (n + 1) (by rw [List.length_append, HN.out]; rfl)
    have HS4 := Lib.hid (HS2.out.call (HA3.out.trans hb4))
    have HR4 := Lib.hid hr4
    clear ho4 hb4 hr4
    go_wp2_with (go_at_call 14; refine (KC.out _ _ _ HR4.out).mono ?_; rintro e w5 ⟨rfl, hb⟩; refine Hid.out ?_)
    refine Lib.hid ?_
    have HS5 := Lib.hid (HS4.out.call hb)
    clear hb HS4 HR4 HS2 HR2 HO3 HA3
    go_wp2_with fail
    go_ret
    exact ⟨rfl, HS5.out.below⟩
  have g3 : decide (o < 0) = false := decide_eq_false b3
  have g4 : decide (2305843009213688669 ≤ o) = true := decide_eq_true (by omega)
  clear hr
  go_enter Tryd.func4, Tryd.ntmps4
  go_wp2_with (go_at_call 8; refine (sane8_any _ HT.out).mono ?_; rintro e w2 ⟨rfl, hb⟩; refine Hid.out ?_)
  refine Lib.hid ?_
  have HS2 := Lib.hid (HS1.out.call hb)
  clear hb HS1
  have HR2 := Lib.hid ((HS2.out.call (HAE.out w2)).get a l (by simp))
  go_wp2_with ((with_reducible show wpList _ _ _ (({ dst := some 33, op := _, type := _, pos := _, after := _, guard := _ } : Oper) :: _) _ _); go_must (refine wpList_appShrG (by rfl) (.tmp 31) (.tmp 32) rfl w2.heap.size _ [] l a cap rfl (HOE.out w2) (by rw [HN.out]; rfl) HR2.out HNL.out HLE.out (HAE.out w2).size ?_))
  intro v3 w3 ho3 hg3
  have HO3 : Hid (OwnS w2.heap.size w3 v3 l) := Lib.hid ho3
  have HA3 := Lib.hid ((HAE.out w2).trans (hg3.below (HOE.out w2).base (HAE.out w2).size))
  clear ho3 hg3
  go_wp2_with ((with_reducible show wpList _ _ _ (({ dst := some 37, op := _, type := _, pos := _, after := _, guard := _ } : Oper) :: _) _ _); go_must (refine wpList_appShr1G (by rfl) (.tmp 33) (.tmp 36) rfl w2.heap.size _ _ (p, 0) _ _ rfl HO3.out rfl rfl rfl HLL.out HA3.out.size ?_))
  intro v4 w4 ho4 hb4
  obtain ⟨a4, cap4, rfl, _, _, _, hr4⟩ := ho4.formN (n + 1) (by rw [List.length_append, HN.out]; rfl)
  have HS4 := Lib.hid (HS2.out.call (HA3.out.trans hb4))
  have HR4 := Lib.hid hr4
  clear ho4 hb4 hr4
  go_wp2_with (go_at_call 14; refine (KC.out _ _ _ HR4.out).mono ?_; rintro e w5 ⟨rfl, hb⟩; refine Hid.out ?_)
  refine Lib.hid ?_
  have HS5 := Lib.hid (HS4.out.call hb)
  clear hb HS4 HR4 HS2 HR2 HO3 HA3
  go_wp2_with fail
  go_ret
  exact ⟨rfl, HS5.out.below⟩

theorem hides_walk8 (a : Option Addr) (cap : Nat) (l : List Sh) (p s o : Int) (w : World) (hT : Tab w) (hl : RdS w.heap.size w a l) (hnil : a = none → cap = 0) :
    Calls Tryd.prog 4 #[.slice a l.length cap, .int .i64 p, .int .i64 s, .int .i64 o] w fun e w' => e = .returned (.bool true) ∧ Below w.heap.size w w' := by
  by_cases h11 : 11 < l.length
  · exact hides_long a cap l p s o h11 w hT hl
  · cases hok : okS (l ++ [(p, 0)])
    · exact hides_bad a cap l p s o (by omega) hok w hT hl hnil
    · by_cases hr : 0 ≤ s ∧ s < 2305843009213688669 ∧ 0 ≤ o ∧ o < 2305843009213688669
      · obtain ⟨s', rfl⟩ : ∃ n : Nat, s = n := ⟨s.toNat, by omega⟩
        obtain ⟨o', rfl⟩ : ∃ n : Nat, o = n := ⟨o.toNat, by omega⟩
        exact hides_ok a cap l p s' o' (by omega) (by omega) (by omega) hok w hT hl hnil
      · exact hides_range a cap l p s o (by omega) hok hr w hT hl hnil
end Go.Proofs.YtecojpkefobgpaaDoor
