/-
  The reference's Join and Fits.
-/
import Derived.Test.YtecojpkefobgpaaGreatDoorHv
namespace Go.Proofs.YtecojpkefobgpaaGreatDoor
open Go.RowKit
set_option linter.unusedVariables false
set_option linter.unusedSimpArgs false

theorem rJoin8 (a : Option Addr) (cap : Nat) (l : List Sh) (w : World) (hl : RdS w.heap.size w a l) :
    Calls Tryz.prog 10 #[.slice a l.length cap] w fun e w' => e = .returned (.tuple #[.int .i64 (joinV l : Nat), .int .i64 (errV l)]) ∧ Below w.heap.size w w' := by
  have K1 := Lib.hid (rCheck8_any a cap l w hl)
  have HL := Lib.hid hl
  clear hl
  cases hok : okS l
  · rw [joinV_bad hok, errV_bad hok]
    rw [errV_bad hok] at K1
    clear hok HL
    generalize l.length = n at *
    go_enter Tryz.func10, Tryz.ntmps10
    go_wp2_with (go_at_call 13; with_reducible refine K1.out.mono ?_; rintro e w2 ⟨rfl, hb⟩; have HB := Lib.hid hb; clear hb)
    go_ret2
    exact ⟨rfl, HB.out⟩
  · rw [joinV_ok hok, errV_ok hok]
    rw [errV_ok hok] at K1
    obtain ⟨h1, h2, h3⟩ := okS_out hok
    have K2 : Hid (∀ W, Below w.heap.size w W → Calls Tryz.prog 25 #[.slice a l.length cap, .int .i64 0] W fun e w' => e = .returned (.int .i64 (thrS l 0 : Nat)) ∧ Below W.heap.size W w') := Lib.hid (fun W h => rValue8 a cap l 0 (by decide) h2 h3 W (HL.out.call h))
    obtain ⟨n, hn⟩ : ∃ n, l.length = n := ⟨_, rfl⟩
    obtain ⟨r, hr⟩ : ∃ r, thrS l 0 = r := ⟨_, rfl⟩
    rw [hn] at K1
    rw [hn, hr] at K2
    rw [hn, hr]
    clear hok HL h1 h2 h3 hn hr
    go_enter Tryz.func10, Tryz.ntmps10
    go_wp2_with (first
      | (go_at_call 13; with_reducible refine K1.out.mono ?_; rintro e w2 ⟨rfl, hb⟩; have HB := Lib.hid hb; clear hb)
      | (go_at_call 25; with_reducible refine (K2.out _ HB.out).mono ?_; rintro e w3 ⟨rfl, hb⟩; have HB3 := Lib.hid (HB.out.trans (hb.mono HB.out.size)); clear hb))
    go_ret2
    exact ⟨rfl, HB3.out⟩


set_option maxRecDepth 100000 in
set_option maxHeartbeats 4000000 in
theorem rFits8_ok (a : Option Addr) (cap : Nat) (l : List Sh) (N : Nat) (hN1 : 1 ≤ N) (hN2 : N ≤ 64) (hok : okS l = true) (w : World) (hl : RdS w.heap.size w a l) (hcap : l.length ≤ cap) (hc2 : cap ≤ maxLen) :
    Calls Tryz.prog 15 #[.slice a l.length cap, .int .i64 N] w fun e w' => e = .returned (.tuple #[.bool (fitS l N), .int .i64 0]) ∧ Below w.heap.size w w' := by
  have K1 := Lib.hid (rCheck8_any a cap l w hl)
  rw [errV_ok hok] at K1
  obtain ⟨h1, h2, h3⟩ := okS_out hok
  have f1 : decide ((N : Int) < 1) = false := decide_eq_false (by omega)
  have f2 : decide (64 < (N : Int)) = false := decide_eq_false (by omega)
  have f2' : decide (64 < N) = false := decide_eq_false (by omega)
  have HL := Lib.hid hl
  have HCK : Hid (∀ s ∈ l, 0 < s.1 ∧ s.1 ≤ 64) := Lib.hid (fun s hs => ⟨(chkL_at h3 s hs).1, (chkL_at h3 s hs).2.1⟩)
  obtain ⟨C, hC⟩ : ∃ C, fitS l N = C := ⟨_, rfl⟩
  have HC0 : Hid (((l.drop N).all fun s => (thrS (l.take N) s.1.toNat : Int) == s.2) = C) := Lib.hid hC
  have K2 : Hid (N ≤ l.length → ∀ W, Below w.heap.size w W → ∀ x : Nat, x < 2305843009213688669 → Calls Tryz.prog 25 #[.slice a N cap, .int .i64 (x : Int)] W fun e w' => e = .returned (.int .i64 (thrS (l.take N) x : Nat)) ∧ Below W.heap.size W w') := Lib.hid (fun hNl W h x hx => by
    have k := rValue8 a cap (l.take N) x hx (by rw [List.length_take]; omega) (chkL_sub (List.take_sublist _ _) h3) W ((hl.take N).call h)
    rw [List.length_take, Nat.min_eq_left hNl] at k
    exact k)
  obtain ⟨T, hT⟩ : ∃ T : Nat → Nat, ∀ x, thrS (l.take N) x = T x := ⟨_, fun _ => rfl⟩
  simp only [hT] at K2 HC0
  rw [hC]
  obtain ⟨n, hn⟩ : ∃ n, l.length = n := ⟨_, rfl⟩
  have HN := Lib.hid hn
  rw [hn] at K1 K2 hcap ⊢
  have hn64 : n ≤ 64 := by omega
  have HSL : Hid (∀ W, N ≤ n → (Instr.slice 22 (.slice a n cap) none (some (.int .i64 (N : Int))) none).run Tryz.prog W = .ok (.slice a N cap) W) := Lib.hid (fun W h => sliceSh_to a n cap N (by omega) W)
  have HB0 := Lib.hid (Below.refl w.heap.size w)
  clear hl hok h1 h2 h3 hC hn hT
  unfold maxLen at hc2
  go_enter Tryz.func15, Tryz.ntmps15
  go_wp2_with (go_at_call 13; with_reducible refine K1.out.mono ?_; rintro e w2 ⟨rfl, hb⟩; have HB := Lib.hid hb; clear hb)
  go_loopw [7] (fun i wr => ∃ j : Nat, N ≤ j ∧ (j ≤ n ∨ j = N) ∧ i = .int .i64 j ∧ ((l.drop j).all fun s => (T s.1.toNat : Int) == s.2) = C ∧ Below w.heap.size w wr) (fun i _ => n - (intOf i).toNat)
  case atStart => exact ⟨N, Nat.le_refl _, .inr rfl, rfl, HC0.out, HB.out⟩
  case round =>
    clear HC0 HB HB0
    obtain ⟨j, hNj, hj, rfl, hq, hb⟩ := hrel
    have HB := Lib.hid hb
    by_cases hlt : j < n
    · have hjl : j < l.length := by rw [HN.out]; exact hlt
      obtain ⟨b, o, rfl, hbB, hc⟩ := HL.out.at_ (by omega)
      obtain ⟨c0, c1⟩ := hc j hjl
      have d0 := (hb.cell (p := ⟨b, o + j * 2, none⟩) hbB).trans c0
      have d1 := (hb.cell (p := ⟨b, o + j * 2 + 1, none⟩) hbB).trans c1
      have hsv := HCK.out _ (List.getElem_mem hjl)
      rw [List.drop_eq_getElem_cons hjl, List.all_cons] at hq
      have HQ := Lib.hid hq
      generalize l[j] = s at *
      obtain ⟨s0, s1⟩ := s
      obtain ⟨m, rfl⟩ : ∃ m : Nat, s0 = m := ⟨s0.toNat, by have := hsv.1; simp only at this; omega⟩
      have hml : m < 2305843009213688669 := by have := hsv.2; simp only at this; omega
      have HQ2 : Hid ((((T m : Nat) : Int) == s1 && ((l.drop (j + 1)).all fun s => (T s.1.toNat : Int) == s.2)) = C) := HQ
      have K3 := Lib.hid (fun W (h : Below w.heap.size w W) => K2.out (by omega) W h m hml)
      have hs1 := fun W => HSL.out W (by omega)
      have hj64 : j < 64 := by omega
      clear hc c0 c1 hq HQ hsv K1 K2 HSL
      generalize T m = t at *
      go_wp2_with fail
      have hS1 : wr.cell? ⟨b, o + j * 2, none⟩ = some (.int .i64 (m : Int)) ∧ wr.cell? ⟨b, o + j * 2 + 1, none⟩ = some (.int .i64 s1) := ⟨d0, d1⟩
      clear d0 d1 hb
      go_region_held3 (fun w' => w'.cell? ⟨b, o + j * 2, none⟩ = some (.int .i64 (m : Int)) ∧ w'.cell? ⟨b, o + j * 2 + 1, none⟩ = some (.int .i64 s1))
        (first
          | exact hS2
          | exact hS1)
        (first
          | (go_at_call 25
             with_reducible refine (K3.out _ HB.out.drew).mono ?_
             rintro e w2 ⟨rfl, hb⟩
             have HB2 := Lib.hid (HB.out.drew.trans (hb.mono HB.out.size))
             have hS2 : w2.cell? ⟨b, o + j * 2, none⟩ = some (.int .i64 (m : Int)) ∧ w2.cell? ⟨b, o + j * 2 + 1, none⟩ = some (.int .i64 s1) := ⟨(hb.cell (p := ⟨b, o + j * 2, none⟩) (Nat.lt_of_lt_of_le hbB HB.out.size)).trans hS1.1, (hb.cell (p := ⟨b, o + j * 2 + 1, none⟩) (Nat.lt_of_lt_of_le hbB HB.out.size)).trans hS1.2⟩
             clear hb))
      by_cases hts : (t : Int) = s1
      · have e1 : ((t : Int) == s1) = true := by rw [hts]; exact beq_self_eq_true _
        have e2 : ((t : Int) != s1) = false := by unfold bne; rw [e1]; rfl
        rw [e1, Bool.true_and] at HQ2
        go_wp2_with fail
        go_roundw
        case rel => exact ⟨j + 1, by omega, by omega, by go_num, HQ2.out, HB2.out⟩
        case measure => simp [intOf]; omega
      · have e1 : ((t : Int) == s1) = false := by rw [beq_eq_false_iff_ne]; exact hts
        have e2 : ((t : Int) != s1) = true := by unfold bne; rw [e1]; rfl
        rw [e1, Bool.false_and] at HQ2
        go_wp2_with fail
        go_ret2
        exact ⟨by rw [← HQ2.out]; rfl, HB2.out⟩
    · have HF : Hid (true = C) := Lib.hid (by rw [← hq, List.drop_eq_nil_of_le (by rw [HN.out]; omega)]; rfl)
      have f3 : decide ((j : Int) < (n : Int)) = false := decide_eq_false (by omega)
      have f3' : decide (j < n) = false := decide_eq_false hlt
      clear hq
      go_wp2_with fail
      go_ret2
      exact ⟨by rw [← HF.out]; rfl, HB.out⟩

theorem rFits8 (a : Option Addr) (cap : Nat) (l : List Sh) (need : Int) (w : World) (hl : RdS w.heap.size w a l) (hcap : l.length ≤ cap) (hc2 : cap ≤ maxLen) :
    Calls Tryz.prog 15 #[.slice a l.length cap, .int .i64 need] w fun e w' => e = .returned (.tuple #[.bool (fitB l need), .int .i64 (fitE l need)]) ∧ Below w.heap.size w w' := by
  have K1 := Lib.hid (rCheck8_any a cap l w hl)
  cases hok : okS l
  · rw [(fitB_bad hok).1, (fitB_bad hok).2]
    rw [errV_bad hok] at K1
    clear hok hl hcap hc2
    generalize l.length = n at *
    go_enter Tryz.func15, Tryz.ntmps15
    go_wp2_with (go_at_call 13; with_reducible refine K1.out.mono ?_; rintro e w2 ⟨rfl, hb⟩; have HB := Lib.hid hb; clear hb)
    go_ret2
    exact ⟨rfl, HB.out⟩
  · by_cases h1 : need < 1
    · rw [(fitB_arg hok (.inl h1)).1, (fitB_arg hok (.inl h1)).2]
      rw [errV_ok hok] at K1
      have f1 : decide (need < 1) = true := decide_eq_true h1
      clear hok hl hcap hc2
      generalize l.length = n at *
      go_enter Tryz.func15, Tryz.ntmps15
      go_wp2_with (go_at_call 13; with_reducible refine K1.out.mono ?_; rintro e w2 ⟨rfl, hb⟩; have HB := Lib.hid hb; clear hb)
      go_ret2
      exact ⟨rfl, HB.out⟩
    · by_cases h2 : 64 < need
      · rw [(fitB_arg hok (.inr h2)).1, (fitB_arg hok (.inr h2)).2]
        rw [errV_ok hok] at K1
        have f1 : decide (need < 1) = false := decide_eq_false h1
        have f2 : decide (64 < need) = true := decide_eq_true h2
        clear hok hl hcap hc2
        generalize l.length = n at *
        go_enter Tryz.func15, Tryz.ntmps15
        go_wp2_with (go_at_call 13; with_reducible refine K1.out.mono ?_; rintro e w2 ⟨rfl, hb⟩; have HB := Lib.hid hb; clear hb)
        go_ret2
        exact ⟨rfl, HB.out⟩
      · obtain ⟨N, rfl⟩ : ∃ N : Nat, need = N := ⟨need.toNat, by omega⟩
        rw [(fitB_ok hok (by omega) (by omega)).1, (fitB_ok hok (by omega) (by omega)).2]
        exact rFits8_ok a cap l N (by omega) (by omega) hok w hl hcap hc2
end Go.Proofs.YtecojpkefobgpaaGreatDoor
