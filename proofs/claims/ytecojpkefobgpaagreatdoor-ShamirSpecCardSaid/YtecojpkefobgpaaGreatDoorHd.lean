/-
  Package shamir: together, EqualFunc, the choice of other shares, the products of a basis polynomial.
-/
import Derived.Test.YtecojpkefobgpaaGreatDoorHc
namespace Go.Proofs.YtecojpkefobgpaaGreatDoor
open Go.RowKit
set_option linter.unusedVariables false
set_option linter.unusedSimpArgs false

theorem together_any (s t : Sh) (w : World) :
    Calls Tryz.prog 27 #[shV s, shV t] w fun e w' => e = .returned (.bool (s.1 == t.1)) ∧ Below w.heap.size w w' := by
  obtain ⟨s0, s1⟩ := s
  obtain ⟨t0, t1⟩ := t
  unfold shV
  go_enter Tryz.func27, Tryz.ntmps27
  go_wp2_with fail
  go_ret
  exact ⟨rfl, ((Below.refl _ _).alloc (Nat.le_refl _) _).alloc (by simp) _⟩

/-- The closure that is true of shares at other places. -/
theorem other_any (s own : Sh) (g : Nat) (w : World) (hg : SH w g own) :
    Calls Tryz.prog 56 #[shV s, .pointer (some ⟨g, 0, none⟩)] w fun e w' => e = .returned (.bool (s.1 != own.1)) ∧ Below w.heap.size w w' := by
  obtain ⟨s0, s1⟩ := s
  unfold shV
  have c0 := (hg.alloc (.cells #[.int .i64 s0, .int .i64 s1] 40)).cell0
  have HB : Hid (Below w.heap.size w (w.alloc (.cells #[.int .i64 s0, .int .i64 s1] 40))) := Lib.hid ((Below.refl _ _).alloc (Nat.le_refl _) _)
  go_enter Tryz.func56, Tryz.ntmps56
  go_wp2_with fail
  go_ret
  exact ⟨rfl, HB.out⟩

set_option maxRecDepth 100000 in
set_option maxHeartbeats 2000000 in
theorem selected_any (a : Option Addr) (cap : Nat) (l : List Sh) (own : Sh) (g : Nat) (w : World) (hl : RdS w.heap.size w a l) (hg : SH w g own) (h64 : l.length ≤ 64) :
    Calls Tryz.prog 55 #[.slice a l.length cap, .func (.func 56) #[] #[.pointer (some ⟨g, 0, none⟩)]] w fun e w' => (∃ v, e = .returned v ∧ OwnS w.heap.size w' v (oth l own.1)) ∧ Below w.heap.size w w' := by
  have HR := Lib.hid hl
  have HG := Lib.hid hg
  obtain ⟨n, hn⟩ : ∃ n, l.length = n := ⟨_, rfl⟩
  have HN := Lib.hid hn
  rw [hn] at h64 ⊢
  have HON := Lib.hid (fun s w h => other_any s own g w h)
  have HT : Hid (∀ k (h : k < l.length), oth (l.take (k + 1)) own.1 = if (l[k].1 != own.1) = true then oth (l.take k) own.1 ++ [l[k]] else oth (l.take k) own.1) := Lib.hid (fun k h => by
    unfold oth
    rw [List.take_succ_eq_append_getElem h, List.filter_append]
    by_cases e : (l[k].1 != own.1) = true
    · rw [if_pos e, List.filter_cons, if_pos e]; rfl
    · rw [if_neg e, List.filter_cons, if_neg e]; simp)
  have HL : Hid (∀ k, (oth (l.take k) own.1).length ≤ 1000000) := Lib.hid (fun k => by
    have h1 := List.length_filter_le (fun t : Sh => t.1 != own.1) (l.take k)
    unfold oth
    rw [List.length_take] at h1
    omega)
  have HTN : Hid (oth (l.take n) own.1 = oth l own.1) := Lib.hid (by rw [← hn, List.take_length])
  have HB0 := Lib.hid (Below.refl w.heap.size w)
  have HO0 : Hid (OwnS w.heap.size w (.slice none 0 0) (oth (l.take 0) own.1)) := Lib.hid (OwnS.nil _ _)
  clear hl hg hn
  go_enter Tryz.func55, Tryz.ntmps55
  go_wp2_with fail
  go_loopw [4, 9] (fun v i wr => ∃ (k : Nat), k ≤ n ∧ i = .int .i64 k ∧ OwnS w.heap.size wr v (oth (l.take k) own.1) ∧ Below w.heap.size w wr) (fun _ i _ => n - (intOf i).toNat)
  case atStart => exact ⟨0, by omega, rfl, HO0.out, HB0.out⟩
  case round =>
    clear HB0 HO0
    obtain ⟨k, hk, rfl, ho, hb⟩ := hrel
    have HB := Lib.hid hb
    have HO := Lib.hid ho
    by_cases hlt : k < n
    · have hkl : k < l.length := by rw [HN.out]; exact hlt
      obtain ⟨b, o, rfl, hbB, hc⟩ := HR.out.at_ (by omega)
      obtain ⟨c0, c1⟩ := hc k hkl
      have d0 := (hb.cell (p := ⟨b, o + k * 2, none⟩) hbB).trans c0
      have d1 := (hb.cell (p := ⟨b, o + k * 2 + 1, none⟩) hbB).trans c1
      have HTk := Lib.hid (HT.out k hkl)
      have HLk := Lib.hid (HL.out k)
      generalize l[k] = s at *
      clear c0 c1 hb ho hc
      obtain ⟨s0, s1⟩ := s
      have HB1 : Hid (Below w.heap.size w (wr.alloc (.cells #[.int .i64 s0, .int .i64 s1] 40))) := Lib.hid (HB.out.alloc HB.out.size _)
      have HSH : Hid (SH (wr.alloc (.cells #[.int .i64 s0, .int .i64 s1] 40)) wr.heap.size (s0, s1)) := Lib.hid (SH.new wr (s0, s1))
      have HO1 : Hid (OwnS w.heap.size (wr.alloc (.cells #[.int .i64 s0, .int .i64 s1] 40)) _ (oth (l.take k) own.1)) := Lib.hid (HO.out.alloc _)
      have HG1 : Hid (SH (wr.alloc (.cells #[.int .i64 s0, .int .i64 s1] 40)) g own) := Lib.hid ((HG.out.call HB.out).alloc _)
      have HK : Hid (∀ w, SH w g own → Calls Tryz.prog 56 #[.agg #[.int .i64 s0, .int .i64 s1], .pointer (some ⟨g, 0, none⟩)] w fun e w' => e = .returned (.bool (s0 != own.1)) ∧ Below w.heap.size w w') := Lib.hid (fun w h => HON.out (s0, s1) w h)
      clear HO HG HON HT HL
      cases hne : (s0 != own.1)
      · rw [if_neg (by show ¬ ((s0, s1).1 != own.1) = true; rw [hne]; decide)] at HTk
        rw [hne] at HK
        go_wp2_with (go_at_call 56; with_reducible refine (HK.out _ HG1.out).mono ?_; rintro e w2 ⟨rfl, hb2⟩; have HB2 := Lib.hid (HB1.out.trans (hb2.mono HB1.out.size)); have HO2 := Lib.hid (HO1.out.below hb2); clear hb2 HB1 HO1)
        go_roundw
        case rel => exact ⟨k + 1, by omega, by go_num, by rw [HTk.out]; exact HO2.out, HB2.out⟩
        case measure => simp [intOf]; omega
      · rw [if_pos (by show ((s0, s1).1 != own.1) = true; exact hne)] at HTk
        rw [hne] at HK
        go_wp2_with (first
          | (go_at_call 56; with_reducible refine (HK.out _ HG1.out).mono ?_; rintro e w2 ⟨rfl, hb2⟩; have HB2 := Lib.hid (HB1.out.trans (hb2.mono HB1.out.size)); have HO2 := Lib.hid (HO1.out.below hb2); have e0 := (HSH.out.call hb2).cell0; have e1 := (HSH.out.call hb2).cell1; clear hb2 HB1 HO1)
          | (refine wpList_appShr1 rfl (.tmp 16) (.tmp 18) rfl w.heap.size _ _ (s0, s1) _ _ rfl HO2.out rfl rfl rfl HLk.out HB2.out.size ?_))
        intro v5 w5 ho5 hb5
        have HO5 := Lib.hid ho5
        have HB5 := Lib.hid (HB2.out.trans hb5)
        clear ho5 hb5
        go_wp2_with fail
        go_roundw
        case rel => exact ⟨k + 1, by omega, by go_num, by rw [HTk.out]; exact HO5.out, HB5.out⟩
        case measure => simp [intOf]; omega
    · obtain rfl : k = n := by omega
      go_wp2_with fail
      go_ret
      exact ⟨⟨_, rfl, by rw [← HTN.out]; exact HO.out⟩, HB.out⟩

/-- A basis polynomial as a value. -/
def basV (a : Option Addr) (n cap : Nat) (one : Int) : Value := .agg #[.slice a n cap, .int .i64 one]
theorem prodS_take (zs : List Sh) (x k : Nat) (h : k < zs.length) : prodS (zs.take (k + 1)) x = prodS (zs.take k) x * dif x zs[k].1.toNat % 2305843009213688669 := by
  rw [List.take_succ_eq_append_getElem h, prodS_step]

set_option maxRecDepth 100000 in
set_option maxHeartbeats 2000000 in
theorem product_bas (a : Option Addr) (cap : Nat) (zs : List Sh) (one : Int) (x : Nat) (hx : x < 2305843009213688669) (hz : ∀ s ∈ zs, 0 < s.1 ∧ s.1 ≤ 64) (w : World) (hl : RdS w.heap.size w a zs) :
    Calls Tryz.prog 59 #[basV a zs.length cap one, .int .i64 x] w fun e w' => e = .returned (.int .i64 (prodS zs x : Nat)) ∧ Below w.heap.size w w' := by
  unfold basV
  have HR := Lib.hid hl
  have HZ := Lib.hid hz
  have hm := hl.1
  unfold maxLen at hm
  obtain ⟨n, hn⟩ : ∃ n, zs.length = n := ⟨_, rfl⟩
  have HN := Lib.hid hn
  rw [hn] at hm ⊢
  have HT := Lib.hid (prodS_take zs x)
  have HP := Lib.hid (fun k => prodS_lt (zs.take k) x)
  have HTN : Hid (prodS (zs.take n) x = prodS zs x) := Lib.hid (by rw [← hn, List.take_length])
  have HB0 : Hid (Below w.heap.size w (w.alloc (.cells #[.slice a n cap, .int .i64 one] 59))) := Lib.hid ((Below.refl _ _).alloc (Nat.le_refl _) _)
  have HP0 : Hid (1 = prodS (zs.take 0) x) := Lib.hid rfl
  clear hl hz hn
  go_enter Tryz.func59, Tryz.ntmps59
  go_wp2_with fail
  go_loopw [5, 11] (fun v i wr => ∃ (k : Nat), k ≤ n ∧ i = .int .i64 k ∧ v = .int .i64 (prodS (zs.take k) x : Nat) ∧ Below w.heap.size w wr) (fun _ i _ => n - (intOf i).toNat)
  case atStart => exact ⟨0, by omega, rfl, by rw [← HP0.out]; rfl, HB0.out⟩
  case round =>
    clear HB0 HP0
    obtain ⟨k, hk, rfl, rfl, hb⟩ := hrel
    have HB := Lib.hid hb
    have hpk := HP.out k
    by_cases hlt : k < n
    · have hkl : k < zs.length := by rw [HN.out]; exact hlt
      obtain ⟨b, o, rfl, hbB, hc⟩ := HR.out.at_ (by omega)
      obtain ⟨c0, c1⟩ := hc k hkl
      have d0 := (hb.cell (p := ⟨b, o + k * 2, none⟩) hbB).trans c0
      have d1 := (hb.cell (p := ⟨b, o + k * 2 + 1, none⟩) hbB).trans c1
      have HTk := Lib.hid (HT.out k hkl)
      have hzk := HZ.out _ (List.getElem_mem hkl)
      generalize zs[k] = s at *
      clear c0 c1 hb hc HT
      obtain ⟨s0, s1⟩ := s
      obtain ⟨m, rfl⟩ : ∃ m : Nat, s0 = m := ⟨s0.toNat, by have := hzk.1; simp only at this; omega⟩
      have HTk2 : Hid (prodS (zs.take (k + 1)) x = prodS (zs.take k) x * dif x m % 2305843009213688669) := HTk
      have hml : m < 2305843009213688669 := by have := hzk.2; simp only at this; omega
      have HB1 : Hid (Below w.heap.size w (wr.alloc (.cells #[.int .i64 (m : Int), .int .i64 s1] 40))) := Lib.hid (HB.out.alloc HB.out.size _)
      have K1 := Lib.hid (fun w => minus_any x m hx hml w)
      have K2 := Lib.hid (fun w => times_any _ _ hpk (dif_lt x m) w)
      clear HTk hzk hpk
      generalize prodS (zs.take k) x = c at *
      generalize dif x m = d at *
      generalize c * d % 2305843009213688669 = r at *
      go_wp2_with (first
        | (go_at_call 73; with_reducible refine (K1.out _).mono ?_; rintro e w2 ⟨rfl, hb2⟩; have HB2 := Lib.hid (HB1.out.trans (hb2.mono HB1.out.size)); clear hb2 HB1)
        | (go_at_call 40; with_reducible refine (K2.out _).mono ?_; rintro e w3 ⟨rfl, hb3⟩; have HB3 := Lib.hid (HB2.out.trans (hb3.mono HB2.out.size)); clear hb3 HB2))
      go_roundw
      case rel => exact ⟨k + 1, by omega, by go_num, by rw [HTk2.out], HB3.out⟩
      case measure => simp [intOf]; omega
    · obtain rfl : k = n := by omega
      go_wp2_with fail
      go_ret
      exact ⟨by rw [← HTN.out]; rfl, HB.out⟩

theorem bas_cells {w : World} (a : Option Addr) (n cap : Nat) (one : Int) : (w.alloc (.cells #[.slice a n cap, .int .i64 one] 59)).cell? ⟨w.heap.size, 0, none⟩ = some (.slice a n cap) ∧ (w.alloc (.cells #[.slice a n cap, .int .i64 one] 59)).cell? ⟨w.heap.size, 1, none⟩ = some (.int .i64 one) := by
  constructor <;> (rw [cell_of_row _ _ _ _ _ _ (heap_alloc_new w _)]; rfl)

set_option maxRecDepth 100000 in
set_option maxHeartbeats 2000000 in
theorem at_bas (a : Option Addr) (cap : Nat) (zs : List Sh) (one x : Nat) (hx : x < 2305843009213688669) (ho : one < 2305843009213688669) (hz : ∀ s ∈ zs, 0 < s.1 ∧ s.1 ≤ 64) (h0 : prodS zs one ≠ 0) (w : World) (hl : RdS w.heap.size w a zs) :
    Calls Tryz.prog 41 #[basV a zs.length cap one, .int .i64 x] w fun e w' => e = .returned (.int .i64 (batS zs one x : Nat)) ∧ Below w.heap.size w w' := by
  have HR := Lib.hid hl
  have HZ := Lib.hid hz
  have HB0 : Hid (Below w.heap.size w (w.alloc (.cells #[.slice a zs.length cap, .int .i64 one] 59))) := Lib.hid ((Below.refl _ _).alloc (Nat.le_refl _) _)
  have K1 : Hid (∀ W, Below w.heap.size w W → Calls Tryz.prog 59 #[.agg #[.slice a zs.length cap, .int .i64 one], .int .i64 x] W fun e w' => e = .returned (.int .i64 (prodS zs x : Nat)) ∧ Below W.heap.size W w') :=
    Lib.hid (fun W h => product_bas a cap zs one x hx hz W (hl.call h))
  have K2 : Hid (∀ W, Below w.heap.size w W → Calls Tryz.prog 59 #[.agg #[.slice a zs.length cap, .int .i64 one], .int .i64 one] W fun e w' => e = .returned (.int .i64 (prodS zs one : Nat)) ∧ Below W.heap.size W w') :=
    Lib.hid (fun W h => product_bas a cap zs one one ho hz W (hl.call h))
  have K3 := Lib.hid (fun w => quotient_any (prodS zs x) (prodS zs one) (prodS_lt _ _) (prodS_lt _ _) h0 w)
  rw [show prodS zs x * (prodS zs one ^ (kQ - 1) % 2305843009213688669) % 2305843009213688669 = batS zs one x from rfl] at K3
  have hS1 := bas_cells (w := w) a zs.length cap one
  unfold basV
  clear hl hz h0
  generalize batS zs one x = r at *
  generalize prodS zs x = p at *
  generalize prodS zs one = q at *
  generalize zs.length = n at *
  go_enter Tryz.func41, Tryz.ntmps41
  go_wp2_with fail
  obtain ⟨w0, hw0⟩ : ∃ w0, w0 = w.alloc (.cells #[.slice a n cap, .int .i64 one] 59) := ⟨_, rfl⟩
  have HZ0 : Hid (w.heap.size < w0.heap.size) := Lib.hid (by rw [hw0]; simp)
  rw [← hw0] at hS1 HB0 ⊢
  clear hw0
  have KEEP : Hid (∀ W W' : World, (W.cell? ⟨w.heap.size, 0, none⟩ = some (.slice a n cap) ∧ W.cell? ⟨w.heap.size, 1, none⟩ = some (.int .i64 one)) → w.heap.size < W.heap.size → Below W.heap.size W W' → (W'.cell? ⟨w.heap.size, 0, none⟩ = some (.slice a n cap) ∧ W'.cell? ⟨w.heap.size, 1, none⟩ = some (.int .i64 one))) :=
    Lib.hid (fun W W' h hz hb => ⟨(hb.cell (p := ⟨w.heap.size, 0, none⟩) hz).trans h.1, (hb.cell (p := ⟨w.heap.size, 1, none⟩) hz).trans h.2⟩)
  go_region_held3 (fun w' => w'.cell? ⟨w.heap.size, 0, none⟩ = some (.slice a n cap) ∧ w'.cell? ⟨w.heap.size, 1, none⟩ = some (.int .i64 one))
    (first
      | exact hS4
      | exact hS3
      | exact hS2
      | exact hS1)
    (first
      | (go_at_call 59
         with_reducible refine (K1.out _ HB0.out.drew).mono ?_
         rintro e w2 ⟨rfl, hb⟩
         have hS2 := KEEP.out w0.drew _ hS1 HZ0.out hb
         have HB2 := Lib.hid (HB0.out.drew.trans (hb.mono HB0.out.size))
         have HZ2 := Lib.hid (Nat.lt_of_lt_of_le HZ0.out hb.size)
         clear hb)
      | (go_at_call 59
         with_reducible refine (K2.out _ HB2.out).mono ?_
         rintro e w3 ⟨rfl, hb⟩
         have hS3 := KEEP.out w2 _ hS2 HZ2.out hb
         have HB3 := Lib.hid (HB2.out.trans (hb.mono HB2.out.size))
         have HZ3 := Lib.hid (Nat.lt_of_lt_of_le HZ2.out hb.size)
         clear hb)
      | (go_at_call 58
         with_reducible refine (K3.out _).mono ?_
         rintro e w4 ⟨rfl, hb⟩
         have hS4 := KEEP.out w3 _ hS3 HZ3.out hb
         have HB4 := Lib.hid (HB3.out.trans (hb.mono HB3.out.size))
         clear hb))
  go_wp2_with fail
  go_ret
  exact ⟨rfl, HB4.out⟩
end Go.Proofs.YtecojpkefobgpaaGreatDoor
