/-
  Package shamir: Join, Fits.
-/
import Derived.Test.YtecojpkefobgpaaGreatDoorHg
namespace Go.Proofs.YtecojpkefobgpaaGreatDoor
open Go.RowKit
set_option linter.unusedVariables false
set_option linter.unusedSimpArgs false

/-- The error of Check. -/
def errV (l : List Sh) : Int := if okS l then 0 else 80
/-- What Join returns. -/
def joinV (l : List Sh) : Nat := if okS l then thrS l 0 else 0
theorem errV_ok {l : List Sh} (h : okS l = true) : errV l = 0 := by unfold errV; rw [if_pos h]
theorem errV_bad {l : List Sh} (h : okS l = false) : errV l = 80 := by unfold errV; rw [if_neg (by rw [h]; decide)]
theorem joinV_ok {l : List Sh} (h : okS l = true) : joinV l = thrS l 0 := by unfold joinV; rw [if_pos h]
theorem joinV_bad {l : List Sh} (h : okS l = false) : joinV l = 0 := by unfold joinV; rw [if_neg (by rw [h]; decide)]
theorem joinV_lt (l : List Sh) : joinV l < 2305843009213688669 := by
  unfold joinV; split
  · exact thrS_lt _ _
  · decide

theorem Join_any (a : Option Addr) (cap : Nat) (l : List Sh) (w : World) (hl : RdS w.heap.size w a l) :
    Calls Tryz.prog 9 #[.slice a l.length cap] w fun e w' => e = .returned (.tuple #[.int .i64 (joinV l : Nat), .int .i64 (errV l)]) ∧ Below w.heap.size w w' := by
  have K1 := Lib.hid (sCheck_any a cap l w hl)
  have HL := Lib.hid hl
  clear hl
  cases hok : okS l
  · rw [joinV_bad hok, errV_bad hok]
    rw [hok] at K1
    clear hok HL
    generalize l.length = n at *
    go_enter Tryz.func9, Tryz.ntmps9
    go_wp2_with (go_at_call 12; with_reducible refine K1.out.mono ?_; rintro e w2 ⟨rfl, hb⟩; have HB := Lib.hid hb; clear hb)
    go_ret2
    exact ⟨rfl, HB.out⟩
  · rw [joinV_ok hok, errV_ok hok]
    rw [hok] at K1
    obtain ⟨h1, h2, h3⟩ := okS_out hok
    have K2 : Hid (∀ W, Below w.heap.size w W → Calls Tryz.prog 24 #[.slice a l.length cap, .int .i64 0] W fun e w' => e = .returned (.int .i64 (thrS l 0 : Nat)) ∧ Below W.heap.size W w') := Lib.hid (fun W h => through_any a cap l 0 (by decide) h2 h3 W (HL.out.call h))
    obtain ⟨n, hn⟩ : ∃ n, l.length = n := ⟨_, rfl⟩
    obtain ⟨r, hr⟩ : ∃ r, thrS l 0 = r := ⟨_, rfl⟩
    rw [hn] at K1
    rw [hn, hr] at K2
    rw [hn, hr]
    clear hok HL h1 h2 h3 hn hr
    go_enter Tryz.func9, Tryz.ntmps9
    go_wp2_with (first
      | (go_at_call 12; with_reducible refine K1.out.mono ?_; rintro e w2 ⟨rfl, hb⟩; have HB := Lib.hid hb; clear hb)
      | (go_at_call 24; with_reducible refine (K2.out _ HB.out).mono ?_; rintro e w3 ⟨rfl, hb⟩; have HB3 := Lib.hid (HB.out.trans (hb.mono HB.out.size)); clear hb))
    go_ret2
    exact ⟨rfl, HB3.out⟩

/-- What Fits returns. -/
def fitB (l : List Sh) (need : Int) : Bool := if okS l && (decide (1 ≤ need) && decide (need ≤ 64)) then fitS l need.toNat else false
def fitE (l : List Sh) (need : Int) : Int := if okS l then (if decide (1 ≤ need) && decide (need ≤ 64) then 0 else 1) else 80
theorem fitB_bad {l : List Sh} {need : Int} (h : okS l = false) : fitB l need = false ∧ fitE l need = 80 := by
  unfold fitB fitE; rw [h]; exact ⟨rfl, rfl⟩
theorem fitB_arg {l : List Sh} {need : Int} (h : okS l = true) (hn : need < 1 ∨ 64 < need) : fitB l need = false ∧ fitE l need = 1 := by
  have e : (decide (1 ≤ need) && decide (need ≤ 64)) = false := by
    rcases hn with hn | hn
    · rw [decide_eq_false (by omega)]; rfl
    · rw [decide_eq_false (p := need ≤ 64) (by omega), Bool.and_false]
  unfold fitB fitE; rw [h, e]; exact ⟨rfl, rfl⟩
theorem fitB_ok {l : List Sh} {N : Nat} (h : okS l = true) (h1 : 1 ≤ N) (h2 : N ≤ 64) : fitB l (N : Int) = fitS l N ∧ fitE l (N : Int) = 0 := by
  have e : (decide (1 ≤ (N : Int)) && decide ((N : Int) ≤ 64)) = true := by
    rw [decide_eq_true (by omega), decide_eq_true (by omega)]; rfl
  unfold fitB fitE; rw [h, e]; exact ⟨rfl, rfl⟩

set_option maxRecDepth 100000 in
set_option maxHeartbeats 2000000 in
theorem Fits_ok (a : Option Addr) (cap : Nat) (l : List Sh) (N : Nat) (hN1 : 1 ≤ N) (hN2 : N ≤ 64) (hok : okS l = true) (w : World) (hl : RdS w.heap.size w a l) (hcap : l.length ≤ cap) (hc2 : cap ≤ maxLen) :
    Calls Tryz.prog 14 #[.slice a l.length cap, .int .i64 N] w fun e w' => e = .returned (.tuple #[.bool (fitS l N), .int .i64 0]) ∧ Below w.heap.size w w' := by
  have K1 := Lib.hid (sCheck_any a cap l w hl)
  rw [hok] at K1
  obtain ⟨h1, h2, h3⟩ := okS_out hok
  have f1 : decide ((N : Int) < 1) = false := decide_eq_false (by omega)
  have f2 : decide (64 < (N : Int)) = false := decide_eq_false (by omega)
  obtain ⟨k, hk⟩ : ∃ k, min N l.length = k := ⟨_, rfl⟩
  have hmin : min (N : Int) (l.length : Int) = (k : Int) := by omega
  have hs1 := sliceSh_to a l.length cap k (by omega)
  have hs2 := sliceSh_from a l.length cap k (by omega)
  unfold tailSh at hs2
  have HRD := Lib.hid (hl.drop hcap k)
  have hrl : (l.take k).length = k := by rw [List.length_take]; omega
  have K2 := Lib.hid (fun W (h : Below w.heap.size w W) x (hx : x < 2305843009213688669) => through_any a cap (l.take k) x hx (by omega) (chkL_sub (List.take_sublist _ _) h3) W ((hl.take k).call h))
  rw [hrl] at K2
  have HCK : Hid (∀ s ∈ l.drop k, 0 < s.1 ∧ s.1 ≤ 64) := Lib.hid (fun s hs => ⟨(chkL_at h3 s (List.mem_of_mem_drop hs)).1, (chkL_at h3 s (List.mem_of_mem_drop hs)).2.1⟩)
  obtain ⟨C, hC⟩ : ∃ C, fitS l N = C := ⟨_, rfl⟩
  have HC0 : Hid ((((l.drop k).drop 0).all fun s => (thrS (l.take k) s.1.toNat : Int) == s.2) = C) := Lib.hid (by
    rw [List.drop_zero, ← hC]
    unfold fitS
    rcases Nat.le_total N l.length with h | h
    · rw [show k = N by omega]
    · rw [show k = l.length by omega, List.drop_eq_nil_of_le (Nat.le_refl _), List.drop_eq_nil_of_le h, List.all_nil, List.all_nil])
  rw [hC]
  obtain ⟨n, hn⟩ : ∃ n, l.length = n := ⟨_, rfl⟩
  have hdl : (l.drop k).length = n - k := by rw [List.length_drop, hn]
  obtain ⟨d, hd⟩ : ∃ d, l.drop k = d := ⟨_, rfl⟩
  rw [hd] at HRD HCK HC0 hdl
  rw [hn] at K1 hs1 hs2 hmin ⊢
  have hkn : k ≤ n := by omega
  have hn64 : n ≤ 64 := by omega
  have HDL := Lib.hid hdl
  obtain ⟨T, hT⟩ : ∃ T : Nat → Nat, ∀ x, thrS (l.take k) x = T x := ⟨_, fun _ => rfl⟩
  simp only [hT] at K2 HC0
  generalize (if cap = k then a else a.map (·.add (k * 2))) = A at *
  have HB0 := Lib.hid (Below.refl w.heap.size w)
  clear hl hcap hok h1 h2 h3 hC hk hrl hn hd hT hdl
  unfold maxLen at hc2
  go_enter Tryz.func14, Tryz.ntmps14
  go_wp2_with (go_at_call 12; with_reducible refine K1.out.mono ?_; rintro e w2 ⟨rfl, hb⟩; have HB := Lib.hid hb; clear hb)
  go_loopw [31] (fun i wr => ∃ j : Nat, j ≤ n - k ∧ i = .int .i64 j ∧ ((d.drop j).all fun s => (T s.1.toNat : Int) == s.2) = C ∧ Below w.heap.size w wr) (fun i _ => (n - k) - (intOf i).toNat)
  case atStart => exact ⟨0, by omega, rfl, HC0.out, HB.out⟩
  case round =>
    clear HC0 HB HB0
    obtain ⟨j, hj, rfl, hq, hb⟩ := hrel
    have HB := Lib.hid hb
    by_cases hlt : j < n - k
    · have hjl : j < d.length := by rw [HDL.out]; exact hlt
      obtain ⟨b, o, hAA, hbB, hc⟩ := HRD.out.at_ (by omega)
      obtain ⟨c0, c1⟩ := hc j hjl
      have d0 := (hb.cell (p := ⟨b, o + j * 2, none⟩) hbB).trans c0
      have d1 := (hb.cell (p := ⟨b, o + j * 2 + 1, none⟩) hbB).trans c1
      have hsv := HCK.out _ (List.getElem_mem hjl)
      rw [List.drop_eq_getElem_cons hjl, List.all_cons] at hq
      have HQ := Lib.hid hq
      generalize d[j] = s at *
      obtain ⟨s0, s1⟩ := s
      obtain ⟨m, rfl⟩ : ∃ m : Nat, s0 = m := ⟨s0.toNat, by have := hsv.1; simp only at this; omega⟩
      have hml : m < 2305843009213688669 := by have := hsv.2; simp only at this; omega
      have HQ2 : Hid ((((T m : Nat) : Int) == s1 && ((d.drop (j + 1)).all fun s => (T s.1.toNat : Int) == s.2)) = C) := HQ
      have HB1 : Hid (Below w.heap.size w (wr.alloc (.cells #[.int .i64 (m : Int), .int .i64 s1] 40))) := Lib.hid (HB.out.alloc HB.out.size _)
      have HSH : Hid (SH (wr.alloc (.cells #[.int .i64 (m : Int), .int .i64 s1] 40)) wr.heap.size ((m : Int), s1)) := Lib.hid (SH.new wr ((m : Int), s1))
      have K3 := Lib.hid (fun W (h : Below w.heap.size w W) => K2.out W h m hml)
      clear hc c0 c1 hb hq HQ hsv K1 K2 hs2 hs1
      generalize T m = t at *
      have HLT := Lib.hid hlt
      subst hAA
      go_wp2_with fail
      have hS1 : (wr.alloc (.cells #[.int .i64 (m : Int), .int .i64 s1] 40)).cell? ⟨wr.heap.size, 0, none⟩ = some (.int .i64 (m : Int)) ∧ (wr.alloc (.cells #[.int .i64 (m : Int), .int .i64 s1] 40)).cell? ⟨wr.heap.size, 1, none⟩ = some (.int .i64 s1) := ⟨HSH.out.cell0, HSH.out.cell1⟩
      have HZ1 := Lib.hid HSH.out.lt
      obtain ⟨w0, hw0⟩ : ∃ w0, w0 = wr.alloc (.cells #[.int .i64 (m : Int), .int .i64 s1] 40) := ⟨_, rfl⟩
      rw [← hw0] at HB1 hS1 HZ1 ⊢
      clear hw0 HSH d0 d1
      go_region_held3 (fun w' => w'.cell? ⟨wr.heap.size, 0, none⟩ = some (.int .i64 (m : Int)) ∧ w'.cell? ⟨wr.heap.size, 1, none⟩ = some (.int .i64 s1))
        (first
          | exact hS2
          | exact hS1)
        (first
          | (go_at_call 24
             with_reducible refine (K3.out _ HB1.out.drew).mono ?_
             rintro e w2 ⟨rfl, hb⟩
             have hS2 : w2.cell? ⟨wr.heap.size, 0, none⟩ = some (.int .i64 (m : Int)) ∧ w2.cell? ⟨wr.heap.size, 1, none⟩ = some (.int .i64 s1) := ⟨(hb.cell (p := ⟨wr.heap.size, 0, none⟩) HZ1.out).trans hS1.1, (hb.cell (p := ⟨wr.heap.size, 1, none⟩) HZ1.out).trans hS1.2⟩
             have HB2 := Lib.hid (HB1.out.drew.trans (hb.mono HB1.out.size))
             clear hb))
      by_cases hts : (t : Int) = s1
      · have e1 : ((t : Int) == s1) = true := by rw [hts]; exact beq_self_eq_true _
        have e2 : ((t : Int) != s1) = false := by unfold bne; rw [e1]; rfl
        rw [e1, Bool.true_and] at HQ2
        go_wp2_with fail
        go_roundw
        case rel => exact ⟨j + 1, HLT.out, by go_num, HQ2.out, HB2.out⟩
        case measure =>
          have h := HLT.out
          simp [intOf]; omega
      · have e1 : ((t : Int) == s1) = false := by rw [beq_eq_false_iff_ne]; exact hts
        have e2 : ((t : Int) != s1) = true := by unfold bne; rw [e1]; rfl
        rw [e1, Bool.false_and] at HQ2
        go_wp2_with fail
        go_ret2
        exact ⟨by rw [← HQ2.out]; rfl, HB2.out⟩
    · obtain rfl : j = n - k := by omega
      have HF : Hid (true = C) := Lib.hid (by rw [← hq, ← HDL.out, List.drop_length]; rfl)
      clear hq
      have f3 : decide (((n - k : Nat) : Int) < ((n - k : Nat) : Int)) = false := decide_eq_false (by omega)
      go_wp2_with fail
      go_ret2
      exact ⟨by rw [← HF.out]; rfl, HB.out⟩

theorem Fits_any (a : Option Addr) (cap : Nat) (l : List Sh) (need : Int) (w : World) (hl : RdS w.heap.size w a l) (hcap : l.length ≤ cap) (hc2 : cap ≤ maxLen) :
    Calls Tryz.prog 14 #[.slice a l.length cap, .int .i64 need] w fun e w' => e = .returned (.tuple #[.bool (fitB l need), .int .i64 (fitE l need)]) ∧ Below w.heap.size w w' := by
  have K1 := Lib.hid (sCheck_any a cap l w hl)
  cases hok : okS l
  · rw [(fitB_bad hok).1, (fitB_bad hok).2]
    rw [hok] at K1
    clear hok hl hcap hc2
    generalize l.length = n at *
    go_enter Tryz.func14, Tryz.ntmps14
    go_wp2_with (go_at_call 12; with_reducible refine K1.out.mono ?_; rintro e w2 ⟨rfl, hb⟩; have HB := Lib.hid hb; clear hb)
    go_ret2
    exact ⟨rfl, HB.out⟩
  · by_cases h1 : need < 1
    · rw [(fitB_arg hok (.inl h1)).1, (fitB_arg hok (.inl h1)).2]
      rw [hok] at K1
      have f1 : decide (need < 1) = true := decide_eq_true h1
      clear hok hl hcap hc2
      generalize l.length = n at *
      go_enter Tryz.func14, Tryz.ntmps14
      go_wp2_with (go_at_call 12; with_reducible refine K1.out.mono ?_; rintro e w2 ⟨rfl, hb⟩; have HB := Lib.hid hb; clear hb)
      go_ret2
      exact ⟨rfl, HB.out⟩
    · by_cases h2 : 64 < need
      · rw [(fitB_arg hok (.inr h2)).1, (fitB_arg hok (.inr h2)).2]
        rw [hok] at K1
        have f1 : decide (need < 1) = false := decide_eq_false h1
        have f2 : decide (64 < need) = true := decide_eq_true h2
        clear hok hl hcap hc2
        generalize l.length = n at *
        go_enter Tryz.func14, Tryz.ntmps14
        go_wp2_with (go_at_call 12; with_reducible refine K1.out.mono ?_; rintro e w2 ⟨rfl, hb⟩; have HB := Lib.hid hb; clear hb)
        go_ret2
        exact ⟨rfl, HB.out⟩
      · obtain ⟨N, rfl⟩ : ∃ N : Nat, need = N := ⟨need.toNat, by omega⟩
        rw [(fitB_ok hok (by omega) (by omega)).1, (fitB_ok hok (by omega) (by omega)).2]
        exact Fits_ok a cap l N (by omega) (by omega) hok w hl hcap hc2
end Go.Proofs.YtecojpkefobgpaaGreatDoor
