/-
  The reference's values of the polynomial through shares: plain, and Value.
-/
import Derived.Test.YtecojpkefobgpaaGreatDoorHo
import Derived.Test.YtecojpkefobgpaaGreatDoorPkF
namespace Go.Proofs.YtecojpkefobgpaaGreatDoor
open Go.RowKit
set_option linter.unusedVariables false
set_option linter.unusedSimpArgs false

/-- One factor of a basis polynomial, as the reference multiplies. -/
def rbF (x : Nat) (a : Int) (y : Nat) (b : Sh) : Nat := if b.1 = a then y else (y * dif x b.1.toNat % 2305843009213688669) * (dif a.toNat b.1.toNat ^ (kQ - 1) % 2305843009213688669) % 2305843009213688669
def rbL (x : Nat) (a : Int) (y : Nat) (l : List Sh) : Nat := l.foldl (rbF x a) y
def rvF (l : List Sh) (x : Nat) (s : Nat) (p : Sh) : Nat := (s + rbL x p.1 p.2.toNat l) % 2305843009213688669
theorem rbF_lt {x : Nat} {a : Int} {y : Nat} {b : Sh} (h : y < 2305843009213688669) : rbF x a y b < 2305843009213688669 := by
  unfold rbF; split
  · exact h
  · exact Nat.mod_lt _ (by decide)
theorem rbL_lt {x : Nat} {a : Int} : ∀ (l : List Sh) {y : Nat}, y < 2305843009213688669 → rbL x a y l < 2305843009213688669
  | [], _, h => h
  | b :: l, y, h => by
    show rbL x a (rbF x a y b) l < _
    exact rbL_lt l (rbF_lt h)
theorem rbL_take (x : Nat) (a : Int) (y : Nat) (l : List Sh) (k : Nat) (h : k < l.length) : rbL x a y (l.take (k + 1)) = rbF x a (rbL x a y (l.take k)) l[k] := by
  unfold rbL
  rw [List.take_succ_eq_append_getElem h, List.foldl_append]; rfl
theorem rbL_F {x : Nat} (hx : x < 2305843009213688669) {a : Int} (ha : 0 < a ∧ a ≤ 64) : ∀ (l : List Sh) (y : Nat), (∀ s ∈ l, 0 < s.1 ∧ s.1 ≤ 64) →
    toF (rbL x a y l) = lbas ((fl l).map (·.1)) (toF a.toNat) (toF x) (toF y)
  | [], y, _ => rfl
  | b :: l, y, h => by
    have hb := h b (List.mem_cons_self ..)
    show toF (rbL x a (rbF x a y b) l) = lbas (toF b.1.toNat :: (fl l).map (·.1)) _ _ _
    rw [rbL_F hx ha l _ (fun s hs => h s (List.mem_cons_of_mem _ hs)), lbas_cons]
    congr 1
    unfold rbF
    by_cases e : b.1 = a
    · rw [if_pos e, if_pos (by rw [e])]
    · rw [if_neg e, if_neg (fun k => e (place_inj hb ha k)), toF_mul, toF_mul, toF_inv, toF_dif hx (by omega), toF_dif (by omega) (by omega)]
theorem rv_go {l : List Sh} {x : Nat} (hx : x < 2305843009213688669) (h : ∀ s ∈ l, 0 < s.1 ∧ s.1 ≤ 64) : ∀ (m : List Sh) (s : Nat), (∀ s ∈ m, 0 < s.1 ∧ s.1 ≤ 64) →
    toF (m.foldl (rvF l x) s) = toF s + lval ((fl l).map (·.1)) (toF x) (fl m)
  | [], s, _ => by show toF s = toF s + 0; grind
  | p :: m, s, hm => by
    have hp := hm p (List.mem_cons_self ..)
    rw [List.foldl_cons, rv_go hx h m _ (fun t ht => hm t (List.mem_cons_of_mem _ ht))]
    show _ = _ + lval _ _ (fs p :: fl m)
    rw [lval_cons]
    unfold rvF
    rw [toF_add, rbL_F hx hp l _ h]
    show _ = toF s + (lbas _ (toF p.1.toNat) _ (toF p.2.toNat) + _)
    grind
theorem rv_lt (l : List Sh) (x : Nat) : ∀ (m : List Sh) (s : Nat), s < 2305843009213688669 → m.foldl (rvF l x) s < 2305843009213688669
  | [], _, h => h
  | p :: m, s, _ => rv_lt l x m _ (Nat.mod_lt _ (by decide))
theorem rv_take (l : List Sh) (x s : Nat) (m : List Sh) (k : Nat) (h : k < m.length) : (m.take (k + 1)).foldl (rvF l x) s = rvF l x ((m.take k).foldl (rvF l x) s) m[k] := by
  rw [List.take_succ_eq_append_getElem h, List.foldl_append]; rfl
/-- It is the same value. -/
theorem rv_thr {l : List Sh} {x : Nat} (hx : x < 2305843009213688669) (h : chkL 0 l = true) : l.foldl (rvF l x) 0 = thrS l x := by
  have h1 : ∀ s ∈ l, 0 < s.1 ∧ s.1 ≤ 64 := fun s hs => by have := chkL_at h s hs; exact ⟨this.1, this.2.1⟩
  refine toF_inj (rv_lt l x l 0 (by decide)) (thrS_lt _ _) ?_
  rw [rv_go hx h1 l 0 h1, thrS_F hx h]
  have e : toF 0 = (0 : FQ) := rfl
  rw [e]
  show 0 + lval _ _ _ = lval _ _ _
  grind
theorem dif_ne {a b : Nat} (ha : a < 2305843009213688669) (hb : b < 2305843009213688669) (h : a ≠ b) : dif a b ≠ 0 := by unfold dif; omega
theorem place_ne {l : List Sh} (h : chkL 0 l = true) {i j : Nat} (hi : i < l.length) (hj : j < l.length) (hij : i ≠ j) : l[i].1 ≠ l[j].1 := by
  have hn := chkL_nodup h
  intro e
  have h1 : (l.map (·.1))[i]'(by simpa using hi) = (l.map (·.1))[j]'(by simpa using hj) := by simpa using e
  exact hij ((List.getElem_inj hn).1 h1)

set_option maxRecDepth 100000 in
set_option maxHeartbeats 8000000 in
theorem rValue8 (a : Option Addr) (cap : Nat) (l : List Sh) (x : Nat) (hx : x < 2305843009213688669) (h64 : l.length ≤ 64) (hv : chkL 0 l = true) (w : World) (hl : RdS w.heap.size w a l) :
    Calls Tryz.prog 25 #[.slice a l.length cap, .int .i64 x] w fun e w' => e = .returned (.int .i64 (thrS l x : Nat)) ∧ Below w.heap.size w w' := by
  have HL := Lib.hid hl
  have HV := Lib.hid (fun s hs => chkL_at (l := l) hv s hs)
  have HNE := Lib.hid (fun i j hi hj hij => place_ne (l := l) hv (i := i) (j := j) hi hj hij)
  have HRT := Lib.hid (rv_thr hx hv)
  have HST := Lib.hid (fun k h => rv_take l x 0 l k h)
  have HSL := Lib.hid (fun m => rv_lt l x (l.take m) 0 (by decide))
  obtain ⟨n, hn⟩ : ∃ n, l.length = n := ⟨_, rfl⟩
  have HN := Lib.hid hn
  rw [hn] at h64 ⊢
  have HTN : Hid (l.take n = l) := Lib.hid (by rw [← hn, List.take_length])
  have HB0 := Lib.hid (Below.refl w.heap.size w)
  have HS0 : Hid (0 = (l.take 0).foldl (rvF l x) 0) := Lib.hid rfl
  clear hl hv hn
  go_enter Tryz.func25, Tryz.ntmps25
  go_wp2_with fail
  go_loopw [5, 6] (fun s i wr => ∃ j : Nat, j ≤ n ∧ i = .int .i64 j ∧ s = .int .i64 ((l.take j).foldl (rvF l x) 0 : Nat) ∧ Below w.heap.size w wr) (fun _ i _ => n - (intOf i).toNat)
  case atStart => exact ⟨0, Nat.zero_le _, rfl, by rw [← HS0.out]; rfl, HB0.out⟩
  case round =>
    clear HS0 HB0
    obtain ⟨j, hj, rfl, rfl, hb⟩ := hrel
    have HB := Lib.hid hb
    by_cases hlt : j < n
    · have hjl : j < l.length := by rw [HN.out]; exact hlt
      obtain ⟨b, o, rfl, hbB, hc⟩ := HL.out.at_ (by omega)
      have HC := Lib.hid hc
      have d1 := (hb.cell (p := ⟨b, o + j * 2 + 1, none⟩) hbB).trans (hc j hjl).2
      obtain ⟨v1, v2, v3⟩ := HV.out _ (List.getElem_mem hjl)
      obtain ⟨v4, v5⟩ := scal_of v3
      have HSj := Lib.hid (HST.out j hjl)
      have HNEj := Lib.hid (fun k hk hkj => HNE.out j k hjl hk hkj)
      have hcj := (hc j hjl).1
      have hsl := HSL.out j
      have HRB := Lib.hid (fun a y k h => rbL_take x a y l k h)
      generalize l[j] = s at *
      obtain ⟨s0, s1⟩ := s
      obtain ⟨p, rfl⟩ : ∃ p : Nat, s0 = p := ⟨s0.toNat, by simp only at v1; omega⟩
      obtain ⟨y, rfl⟩ : ∃ y : Nat, s1 = y := ⟨s1.toNat, by simp only at v4; omega⟩
      have hpl : p < 2305843009213688669 := by simp only at v2; omega
      have hp0 : 0 < p := by simp only at v1; omega
      have hyl : y < 2305843009213688669 := by simp only at v5; omega
      have HSj2 : Hid ((l.take (j + 1)).foldl (rvF l x) 0 = ((l.take j).foldl (rvF l x) 0 + rbL x p y l) % 2305843009213688669) := Lib.hid (by rw [HSj.out]; unfold rvF; simp only [Int.toNat_natCast])
      have HYL := Lib.hid (fun k => rbL_lt (x := x) (a := (p : Int)) (l.take k) hyl)
      have HY0 : Hid (y = rbL x p y (l.take 0)) := Lib.hid rfl
      have HYN : Hid (rbL x p y (l.take n) = rbL x p y l) := Lib.hid (by rw [HTN.out])
      have KA := Lib.hid (fun W => rAdd ((l.take j).foldl (rvF l x) 0) (rbL x p y l) hsl (rbL_lt l hyl) W)
      have HCP : Hid (∀ W, Below w.heap.size w W → W.cell? ⟨b, o + j * 2, none⟩ = some (.int .i64 (p : Int))) := Lib.hid (fun W h => (h.cell (p := ⟨b, o + j * 2, none⟩) hbB).trans hcj)
      have HVP : Hid (∀ k, (h : k < l.length) → 0 < l[k].1 ∧ l[k].1 ≤ 64) := Lib.hid (fun k h => ⟨(HV.out _ (List.getElem_mem h)).1, (HV.out _ (List.getElem_mem h)).2.1⟩)
      rw [← HSj2.out] at KA
      obtain ⟨S2, hS2⟩ : ∃ S2, (l.take (j + 1)).foldl (rvF l x) 0 = S2 := ⟨_, rfl⟩
      rw [hS2] at KA
      have HS2 := Lib.hid hS2
      generalize (l.take j).foldl (rvF l x) 0 = S at *
      clear hb hc hcj hsl v1 v2 v3 v4 v5 HSj HSj2 HNE HST HSL HV hS2
      go_wp2_with fail
      clear d1
      go_loopw [7, 8] (fun v i wq => ∃ k : Nat, k ≤ n ∧ i = .int .i64 k ∧ v = .int .i64 (rbL x p y (l.take k) : Nat) ∧ Below w.heap.size w wq) (fun _ i _ => n - (intOf i).toNat)
      case atStart => exact ⟨0, Nat.zero_le _, rfl, by rw [← HY0.out], HB.out⟩
      case round =>
        clear HB HY0
        obtain ⟨k, hk, rfl, rfl, hb⟩ := hrel
        have HB := Lib.hid hb
        by_cases hkn : k < n
        · have hkl : k < l.length := by rw [HN.out]; exact hkn
          have c0 := (hb.cell (p := ⟨b, o + k * 2, none⟩) hbB).trans (HC.out k hkl).1
          have hcp := HCP.out _ hb
          have HRk := Lib.hid (HRB.out (p : Int) y k hkl)
          have hyk := HYL.out k
          by_cases hkj : k = j
          · have HRk2 : Hid (rbL x p y (l.take (k + 1)) = rbL x p y (l.take k)) := Lib.hid (by
              rw [HRk.out]
              unfold rbF
              refine if_pos ?_
              have h1 := (HC.out k hkl).1
              subst hkj
              have h2 := HCP.out w (Below.refl _ _)
              rw [h1] at h2
              simpa using h2)
            have e1 : ((k : Int) == (j : Int)) = true := by rw [hkj]; simp
            clear hkj HRk hb c0
            generalize rbL x p y (l.take k) = yk at *
            go_wp2_with fail
            go_roundw
            case rel =>
              first
                | exact ⟨k + 1, by omega, by go_num, by rw [HRk2.out], HB.out⟩
                | (repeat apply Exists.intro
                   exact ⟨⟨k + 1, by omega, by go_num, by rw [HRk2.out], HB.out⟩, rfl⟩)
            case measure => simp [intOf]; omega
          · have hne := HNEj.out k hkl (fun e => hkj e.symm)
            have hpk := HVP.out k hkl
            have e1 : ((k : Int) == (j : Int)) = false := by rw [beq_eq_false_iff_ne]; omega
            have hcp' := HCP.out
            generalize l[k] = t at *
            obtain ⟨t0, t1⟩ := t
            obtain ⟨q, rfl⟩ : ∃ q : Nat, t0 = q := ⟨t0.toNat, by have := hpk.1; simp only at this; omega⟩
            have hql : q < 2305843009213688669 := by have := hpk.2; simp only at this; omega
            have hpq : p ≠ q := fun e => hne (by simp only; omega)
            have HRk2 : Hid (rbL x p y (l.take (k + 1)) = (rbL x p y (l.take k) * dif x q % 2305843009213688669) * (dif p q ^ (kQ - 1) % 2305843009213688669) % 2305843009213688669) := Lib.hid (by
              rw [HRk.out]
              unfold rbF
              rw [if_neg (fun e => hpq (by simp only at e; omega))]
              simp only [Int.toNat_natCast])
            have K1 := Lib.hid (fun W => rSub x q hx hql W)
            have K2 := Lib.hid (fun W => rSub p q hpl hql W)
            have K3 := Lib.hid (fun W => rInv (dif p q) (dif_ne hpl hql hpq) (dif_lt _ _) W)
            have K4 := Lib.hid (fun W => rMul (rbL x p y (l.take k)) (dif x q) hyk (dif_lt _ _) W)
            have hm4 : rbL x p y (l.take k) * dif x q % 2305843009213688669 < 2305843009213688669 := Nat.mod_lt _ (by decide)
            have hm3 : dif p q ^ (kQ - 1) % 2305843009213688669 < 2305843009213688669 := Nat.mod_lt _ (by decide)
            have K5 := Lib.hid (fun W => rMul (rbL x p y (l.take k) * dif x q % 2305843009213688669) (dif p q ^ (kQ - 1) % 2305843009213688669) hm4 hm3 W)
            rw [← HRk2.out] at K5
            obtain ⟨y2, hy2⟩ : ∃ y2, rbL x p y (l.take (k + 1)) = y2 := ⟨_, rfl⟩
            rw [hy2] at K5
            have HY2 := Lib.hid hy2
            clear HRk HRk2 hy2 hne hkj hb hcp'
            generalize rbL x p y (l.take k) * dif x q % 2305843009213688669 = y1 at *
            generalize dif p q ^ (kQ - 1) % 2305843009213688669 = ci at *
            generalize dif p q = dpq at *
            generalize dif x q = dxq at *
            generalize rbL x p y (l.take k) = yk at *
            have HSW : Hid (∀ W, Below w.heap.size w W → W.cell? ⟨b, o + j * 2, none⟩ = some (.int .i64 (p : Int)) ∧ W.cell? ⟨b, o + k * 2, none⟩ = some (.int .i64 (q : Int))) := Lib.hid (fun W h => ⟨HCP.out W h, by
              have hw := h.cell (p := ⟨b, o + k * 2, none⟩) hbB
              have hr := HB.out.cell (p := ⟨b, o + k * 2, none⟩) hbB
              exact hw.trans (hr.symm.trans c0)⟩)
            go_wp2_with (go_at_call 42; with_reducible refine (K1.out _).mono ?_; rintro e w3 ⟨rfl, hw⟩; rw [hw]; clear hw w3)
            go_quiet (first | (go_at_call 42; exact Calls.quiet_of_same (K2.out _)))
            go_wp2_with (first
              | (go_at_call 43; with_reducible refine (K3.out _).mono ?_; rintro e w4 ⟨rfl, hw⟩; rw [hw]; clear hw w4)
              | (go_at_call 44; with_reducible refine (K4.out _).mono ?_; rintro e w4 ⟨rfl, hw⟩; rw [hw]; clear hw w4)
              | (go_at_call 44; with_reducible refine (K5.out _).mono ?_; rintro e w4 ⟨rfl, hw⟩; rw [hw]; clear hw w4))
            go_roundw
            case rel =>
              first
                | exact ⟨k + 1, by omega, by go_num, by rw [HY2.out], below_dNk HB.out _⟩
                | (repeat apply Exists.intro
                   exact ⟨⟨k + 1, by omega, by go_num, by rw [HY2.out], below_dNk HB.out _⟩, rfl⟩)
            case measure => simp [intOf]; omega
        · obtain rfl : k = n := by omega
          rw [HYN.out]
          generalize rbL x p y l = Y at *
          go_wp2_with (go_at_call 29; with_reducible refine (KA.out _).mono ?_; rintro e w3 ⟨rfl, hw⟩; rw [hw]; clear hw w3)
          go_roundw
          case rel =>
            first
              | exact ⟨j + 1, by omega, by go_num, by rw [HS2.out], HB.out⟩
              | (repeat apply Exists.intro
                 exact ⟨⟨j + 1, by omega, by go_num, by rw [HS2.out], HB.out⟩, rfl⟩)
          case measure => simp [intOf]; omega
    · obtain rfl : j = n := by omega
      rw [HTN.out, HRT.out]
      go_wp2_with fail
      go_ret
      exact ⟨rfl, HB.out⟩
end Go.Proofs.YtecojpkefobgpaaGreatDoor
