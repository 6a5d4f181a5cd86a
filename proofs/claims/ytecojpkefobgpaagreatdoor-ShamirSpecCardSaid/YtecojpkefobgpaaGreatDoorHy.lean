/-
  The reference's Sum.
-/
import Derived.Test.YtecojpkefobgpaaGreatDoorHx
namespace Go.Proofs.YtecojpkefobgpaaGreatDoor
open Go.RowKit
set_option linter.unusedVariables false
set_option linter.unusedSimpArgs false

set_option maxRecDepth 100000 in
set_option maxHeartbeats 4000000 in
theorem rSum8_ok (a : Option Addr) (cap : Nat) (l : List Sh) (a' : Option Addr) (cap' : Nat) (m : List Sh) (w : World) (hl : RdS w.heap.size w a l) (hm : RdS w.heap.size w a' m) (hok : okS l = true) (hok' : okS m = true) (hlen : l.length = m.length) :
    Calls Tryz.prog 17 #[.slice a l.length cap, .slice a' m.length cap'] w fun e w' => ∃ v, e = .returned (.tuple #[v, .int .i64 (sumE l m)]) ∧ OwnS w.heap.size w' v (sumL l m) ∧ Below w.heap.size w w' := by
  obtain ⟨h1, h2, h3⟩ := okS_out hok
  obtain ⟨k1, k2, k3⟩ := okS_out hok'
  have K1 := Lib.hid (rCheck8_any a cap l w hl)
  have K2 := Lib.hid (fun W (h : Below w.heap.size w W) => rCheck8_any a' cap' m W (hm.call h))
  rw [errV_ok hok] at K1
  rw [errV_ok hok'] at K2
  have HL := Lib.hid hl
  have HM := Lib.hid hm
  have HS1 := Lib.hid (fun s hs => (chkL_at (l := l) h3 s hs).2.2)
  have HS2 := Lib.hid (fun s hs => (chkL_at (l := m) k3 s hs).2.2)
  have HTK := Lib.hid (sumS_take l m)
  have HTN : Hid ((sumS l m).take l.length = sumS l m) := Lib.hid (List.take_of_length_le (by rw [sumS_len]; omega))
  have HO0 : Hid (∀ W, OwnS w.heap.size W (.slice none 0 0) ((sumS l m).take 0)) := Lib.hid (fun W => OwnS.nil _ _)
  obtain ⟨C, hC⟩ : ∃ C, plEq l m = C := ⟨_, rfl⟩
  have HC0 : Hid (plEq (l.drop 0) (m.drop 0) = C) := Lib.hid hC
  have HET : Hid (C = true → sumE l m = 0 ∧ sumL l m = sumS l m) := Lib.hid (fun h => sumE_ok (by rw [hok, hok', hC, h]; rfl))
  have HEF : Hid (C = false → sumE l m = 80 ∧ sumL l m = []) := Lib.hid (fun h => sumE_bad (by rw [hok, hok', hC, h]; rfl))
  generalize sumE l m = E at *
  generalize sumL l m = Ls at *
  obtain ⟨n, hn⟩ : ∃ n, l.length = n := ⟨_, rfl⟩
  have hmn : m.length = n := by omega
  have HN := Lib.hid hn
  have HMN := Lib.hid hmn
  have hn64 : n ≤ 64 := by omega
  rw [hn] at K1 HTN ⊢
  rw [hmn] at K2 ⊢
  clear hok hok' hlen hl hm h1 h2 h3 k1 k2 k3 hn hmn hC
  go_enter Tryz.func17, Tryz.ntmps17
  go_wp2_with (first
    | (go_at_call 13; with_reducible refine K1.out.mono ?_; rintro e w2 ⟨rfl, hb⟩; have HB2 := Lib.hid hb; clear hb)
    | (go_at_call 13; with_reducible refine (K2.out _ HB2.out).mono ?_; rintro e w3 ⟨rfl, hb⟩; have HB3 := Lib.hid (HB2.out.trans (hb.mono HB2.out.size)); clear hb HB2))
  clear K1 K2
  go_loopw [7, 8] (fun v i wr => ∃ j : Nat, j ≤ n ∧ i = .int .i64 j ∧ OwnS w.heap.size wr v ((sumS l m).take j) ∧ plEq (l.drop j) (m.drop j) = C ∧ Below w.heap.size w wr) (fun _ i _ => n - (intOf i).toNat)
  case atStart => exact ⟨0, by omega, rfl, HO0.out _, HC0.out, HB3.out⟩
  case round =>
    clear HO0 HB3 HC0
    obtain ⟨j, hj, rfl, ho, hq, hb⟩ := hrel
    have HB := Lib.hid hb
    have HO := Lib.hid ho
    by_cases hlt : j < n
    · have hjl : j < l.length := by rw [HN.out]; exact hlt
      have hjm : j < m.length := by rw [HMN.out]; exact hlt
      obtain ⟨b, o, rfl, hbB, hc⟩ := HL.out.at_ (by omega)
      obtain ⟨b', o', rfl, hbB', hc'⟩ := HM.out.at_ (by omega)
      obtain ⟨c0, c1⟩ := hc j hjl
      obtain ⟨c0', c1'⟩ := hc' j hjm
      have s1 := nat_sc (HS1.out _ (List.getElem_mem hjl))
      have s2 := nat_sc (HS2.out _ (List.getElem_mem hjm))
      have HTj := Lib.hid (HTK.out j hjl hjm)
      rw [List.drop_eq_getElem_cons hjl, List.drop_eq_getElem_cons hjm, plEq_cons] at hq
      have HQ := Lib.hid hq
      generalize l[j] = s at *
      generalize m[j] = t at *
      obtain ⟨s0, s1'⟩ := s
      obtain ⟨t0, t1'⟩ := t
      obtain ⟨y, hy, hyl⟩ := s1
      obtain ⟨z, hz, hzl⟩ := s2
      obtain rfl : s1' = (y : Int) := hy
      obtain rfl : t1' = (z : Int) := hz
      have HQ2 : Hid ((s0 == t0 && plEq (l.drop (j + 1)) (m.drop (j + 1))) = C) := HQ
      have HTj2 : Hid ((sumS l m).take (j + 1) = (sumS l m).take j ++ [(s0, (((y + z) % 2305843009213688669 : Nat) : Int))]) := Lib.hid (by rw [HTj.out]; simp only [Int.toNat_natCast])
      have KP := Lib.hid (fun W => rAdd y z hyl hzl W)
      have HLk : Hid (((sumS l m).take j).length ≤ 1000000) := Lib.hid (by rw [List.length_take]; omega)
      generalize (y + z) % 2305843009213688669 = r at *
      have HCE : Hid (∀ W, Below w.heap.size w W → W.cell? ⟨b, o + j * 2, none⟩ = some (.int .i64 s0) ∧ W.cell? ⟨b, o + j * 2 + 1, none⟩ = some (.int .i64 (y : Int)) ∧ W.cell? ⟨b', o' + j * 2, none⟩ = some (.int .i64 t0) ∧ W.cell? ⟨b', o' + j * 2 + 1, none⟩ = some (.int .i64 (z : Int))) :=
        Lib.hid (fun W h => ⟨(h.cell (p := ⟨b, o + j * 2, none⟩) hbB).trans c0, (h.cell (p := ⟨b, o + j * 2 + 1, none⟩) hbB).trans c1, (h.cell (p := ⟨b', o' + j * 2, none⟩) hbB').trans c0', (h.cell (p := ⟨b', o' + j * 2 + 1, none⟩) hbB').trans c1'⟩)
      obtain ⟨d0, d1, e0, e1⟩ := HCE.out _ hb
      clear hc hc' c0 c1 c0' c1' hb ho HTj HTK hq HQ
      by_cases hst : s0 = t0
      · have g1 : (s0 == t0) = true := by simpa using hst
        have g2 : (s0 != t0) = false := by simpa using hst
        rw [g1, Bool.true_and] at HQ2
        clear hst
        go_wp2_with fail
        go_quiet (fail)
        have HBx := Lib.hid (below_dNk HB.out nq)
        have HOx := Lib.hid (HO.out.drewN nq)
        clear HB HO d0 d1 e0 e1
        generalize wr.drewN nq = wx at *
        obtain ⟨d0, d1, e0, e1⟩ := HCE.out _ HBx.out
        go_wp2_with fail
        go_quiet (first | (go_at_call 29; exact Calls.quiet_of_same (KP.out _)))
        have HBy := Lib.hid (below_dNk HBx.out nq)
        have HOy := Lib.hid (HOx.out.drewN nq)
        clear HBx HOx d0 d1 e0 e1
        generalize wx.drewN nq = wy at *
        obtain ⟨d0, d1, e0, e1⟩ := HCE.out _ HBy.out
        go_wp2_with (refine wpList_appShr1 rfl (.tmp 56) (.tmp 64) rfl w.heap.size _ _ (s0, (r : Nat)) _ _ rfl HOy.out rfl rfl rfl HLk.out HBy.out.size ?_)
        intro v5 w5 ho5 hb5
        have HO5 := Lib.hid ho5
        have HB5 := Lib.hid (HBy.out.trans hb5)
        clear ho5 hb5
        go_wp2_with fail
        go_roundw
        case rel => exact ⟨j + 1, by omega, by go_num, by rw [HTj2.out]; exact HO5.out, HQ2.out, HB5.out⟩
        case measure => simp [intOf]; omega
      · have g1 : (s0 == t0) = false := by simpa using hst
        have g2 : (s0 != t0) = true := by simpa using hst
        rw [g1, Bool.false_and] at HQ2
        have HR := Lib.hid (HEF.out HQ2.out.symm)
        go_wp2_with fail
        go_quiet (fail)
        go_wp2_with fail
        go_ret2
        exact ⟨_, by rw [HR.out.1]; rfl, by rw [HR.out.2]; exact OwnS.nil _ _, below_dNk HB.out _⟩
    · obtain rfl : j = n := by omega
      rw [HTN.out] at HO
      have HR := Lib.hid (HET.out (by
        have h1 := HN.out
        have h2 := HMN.out
        rw [← hq, List.drop_eq_nil_of_le (by omega), List.drop_eq_nil_of_le (by omega)]; rfl))
      clear hq
      go_wp2_with fail
      go_ret2
      exact ⟨_, by rw [HR.out.1]; rfl, by rw [HR.out.2]; exact HO.out, HB.out⟩

set_option maxRecDepth 100000 in
theorem rSum8 (a : Option Addr) (cap : Nat) (l : List Sh) (a' : Option Addr) (cap' : Nat) (m : List Sh) (w : World) (hl : RdS w.heap.size w a l) (hm : RdS w.heap.size w a' m) :
    Calls Tryz.prog 17 #[.slice a l.length cap, .slice a' m.length cap'] w fun e w' => ∃ v, e = .returned (.tuple #[v, .int .i64 (sumE l m)]) ∧ OwnS w.heap.size w' v (sumL l m) ∧ Below w.heap.size w w' := by
  have K1 := Lib.hid (rCheck8_any a cap l w hl)
  have K2 := Lib.hid (fun W (h : Below w.heap.size w W) => rCheck8_any a' cap' m W (hm.call h))
  cases hok : okS l
  · obtain ⟨e1, e2⟩ := sumE_bad (l := l) (m := m) (by rw [hok]; rfl)
    rw [e1, e2]
    rw [errV_bad hok] at K1
    clear K2 hok hl hm e1 e2
    generalize l.length = n at *
    generalize m.length = n' at *
    go_enter Tryz.func17, Tryz.ntmps17
    go_wp2_with (go_at_call 13; with_reducible refine K1.out.mono ?_; rintro e w2 ⟨rfl, hb⟩; have HB2 := Lib.hid hb; clear hb)
    go_ret2
    exact ⟨_, rfl, OwnS.nil _ _, HB2.out⟩
  · rw [errV_ok hok] at K1
    cases hok' : okS m
    · obtain ⟨e1, e2⟩ := sumE_bad (l := l) (m := m) (by rw [hok, hok']; rfl)
      rw [e1, e2]
      rw [errV_bad hok'] at K2
      clear hok hok' hl hm e1 e2
      generalize l.length = n at *
      generalize m.length = n' at *
      go_enter Tryz.func17, Tryz.ntmps17
      go_wp2_with (first
        | (go_at_call 13; with_reducible refine K1.out.mono ?_; rintro e w2 ⟨rfl, hb⟩; have HB2 := Lib.hid hb; clear hb)
        | (go_at_call 13; with_reducible refine (K2.out _ HB2.out).mono ?_; rintro e w3 ⟨rfl, hb⟩; have HB3 := Lib.hid (HB2.out.trans (hb.mono HB2.out.size)); clear hb))
      go_ret2
      exact ⟨_, rfl, OwnS.nil _ _, HB3.out⟩
    · by_cases hlen : l.length = m.length
      · exact rSum8_ok a cap l a' cap' m w hl hm hok hok' hlen
      · have hpl : plEq l m = false := by
          cases h : plEq l m
          · rfl
          · exact absurd (plEq_len h) hlen
        obtain ⟨e1, e2⟩ := sumE_bad (l := l) (m := m) (by rw [hok, hok', hpl]; rfl)
        rw [e1, e2]
        rw [errV_ok hok'] at K2
        have f1 : ((l.length : Int) != (m.length : Int)) = true := by simp; omega
        clear hok hok' hl hm e1 e2 hpl hlen
        generalize l.length = n at *
        generalize m.length = n' at *
        go_enter Tryz.func17, Tryz.ntmps17
        go_wp2_with (first
          | (go_at_call 13; with_reducible refine K1.out.mono ?_; rintro e w2 ⟨rfl, hb⟩; have HB2 := Lib.hid hb; clear hb)
          | (go_at_call 13; with_reducible refine (K2.out _ HB2.out).mono ?_; rintro e w3 ⟨rfl, hb⟩; have HB3 := Lib.hid (HB2.out.trans (hb.mono HB2.out.size)); clear hb))
        go_ret2
        exact ⟨_, rfl, OwnS.nil _ _, HB3.out⟩
end Go.Proofs.YtecojpkefobgpaaGreatDoor
