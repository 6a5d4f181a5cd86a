/-
  Contract of (*reader).numeral.
-/
import Derived.Test.YtihllbblehjhlaaNml
namespace Go.Proofs.Ytihllbblehjhlaa
open Go.RowKit

/-- What a reading comes to: the number and what is left, or the panic. -/
def NumPost (Bd R : Nat) (w : World) (res : Option (Nat × List UInt8)) (e : Ending) (w' : World) : Prop :=
  (∃ y r, res = some (y, r) ∧ e = .returned (.int .u64 (y : Int)) ∧ Rdr Bd R w' r ∧ w.grownBy w' (some R)) ∨ (res = none ∧ e = .panicked errCode ∧ w.grownBy w' (some R))

theorem or_sh (u d k : Nat) (h : u < 2 ^ k) : u ||| (d * 2 ^ k) = u + d * 2 ^ k := by
  rw [← Nat.shiftLeft_eq, Nat.or_comm, ← Nat.shiftLeft_add_eq_or_of_lt h, Nat.add_comm]
theorem or_digit (u d j : Nat) (hu : u < 128 ^ j) (hd : d < 128) (hj : j < 9) :
    bits .or .u64 (u : Int) (IntKind.u64.wrap ((d : Int) % 128 * 2 ^ (7 * j))) = ((u + 128 ^ j * d : Nat) : Int) := by
  have e : 128 ^ j = 2 ^ (7 * j) := by rw [Nat.pow_mul]
  have h1 : 2 ^ (7 * j) ≤ 2 ^ 56 := Nat.pow_le_pow_right (by decide) (by omega)
  have h2 : d * 2 ^ (7 * j) ≤ 127 * 2 ^ 56 := Nat.mul_le_mul (by omega) h1
  have h3 : ((d : Int) % 128 * 2 ^ (7 * j)) = ((d * 2 ^ (7 * j) : Nat) : Int) := by
    rw [show (d : Int) % 128 = (d : Int) from by omega]; simp
  rw [e] at hu
  rw [h3, IntKind.wrap_u64, show (((d * 2 ^ (7 * j) : Nat) : Int) % 18446744073709551616) = ((d * 2 ^ (7 * j) : Nat) : Int) from by omega, bits_or_u64_nat _ _ (by omega) (by omega), or_sh _ _ _ hu, e, Nat.mul_comm]
theorem or_digit9 (u d : Nat) (hu : u < 128 ^ 9) (hd : d ≤ 1) :
    bits .or .u64 (u : Int) ((d : Int) % 128 * 9223372036854775808) = ((u + 128 ^ 9 * d : Nat) : Int) := by
  have h3 : ((d : Int) % 128 * 9223372036854775808) = ((d * 2 ^ 63 : Nat) : Int) := by omega
  rw [h3, bits_or_u64_nat _ _ (by omega) (by omega), or_sh _ _ _ (by omega)]
  omega
theorem or_zero (u : Nat) (hu : u < 18446744073709551616) : bits .or .u64 (u : Int) 0 = (u : Int) := by
  have := bits_or_u64_nat u 0 hu (by omega)
  rw [Nat.or_zero] at this; exact this
theorem num_ret {Bd R : Nat} {w w' : World} {res : Option (Nat × List UInt8)} {x : Int} {y : Nat} {r : List UInt8} (h : res = some (y, r)) (hx : x = (y : Int)) (h1 : Rdr Bd R w' r) (h2 : w.grownBy w' (some R)) : NumPost Bd R w res (.returned (.int .u64 x)) w' := by
  subst hx; exact .inl ⟨y, r, h, rfl, h1, h2⟩

set_option maxRecDepth 100000 in
set_option maxHeartbeats 800000 in
theorem numeral_any (Bd R : Nat) (l : List UInt8) (w : World) (h : Rdr Bd R w l) :
    Calls Try.prog 41 #[.pointer (some ⟨R, 0, none⟩)] w (NumPost Bd R w (dnum l)) := by
  have H0 : Hid (dnAt 0 0 l = dnum l) := by show _ = _; simp [dnAt, dnum]
  have HR := Lib.hid h
  clear h
  go_enter Try.func41, Try.ntmps41
  go_wp2
  go_loopw [5, 2] (fun i x wr => ∃ (j u : Nat) (l' : List UInt8), i = .int .i64 j ∧ x = .int .u64 u ∧ j ≤ 9 ∧ Hid (u < 128 ^ j) ∧ Hid (Rdr Bd R wr l') ∧ Hid (dnAt j u l' = dnum l) ∧ w.grownBy wr (some R)) (fun i _ _ => 10 - (intOf i).toNat)
  case atStart => exact ⟨0, 0, l, rfl, rfl, by omega, by show _ < _; simp, HR, H0, ⟨rfl, rfl, rfl, Nat.le_refl _, fun _ _ _ => rfl⟩⟩
  case round =>
    obtain ⟨j, u, l', rfl, rfl, hj, HU, HRd, HD, hg⟩ := hrel
    have HG := Lib.hid hg
    clear hg
    cases l' with
    | nil =>
      have HN : Hid (dnum l = none) := by show _ = _; rw [← HD.out]; unfold dnAt; cases (9 - j) <;> rfl
      go_wp2_with (go_at_call 39; refine (take_bad Bd R 1 [] _ HRd.out (by simp) (by omega)).mono ?_; rintro e w1 ⟨rfl, rfl⟩)
      exact ⟨rfl, .inr ⟨HN.out, rfl, HG.out⟩⟩
    | cons c r =>
      have hcl := c.toNat_lt
      by_cases h1 : j = 9 ∧ 1 < c.toNat
      · obtain ⟨h1, h2⟩ := h1
        have HN : Hid (dnum l = none) := by show _ = _; rw [← HD.out]; unfold dnAt; rw [h1]; simp only [Nat.sub_self, dn]; rw [if_pos h2]; rfl
        subst h1
        have hcg : (1 : Int) < (c.toNat : Int) := by omega
        go_wp2_with (go_at_call 39; refine (take1 Bd R c r _ HRd.out).mono ?_; rintro e w1 ⟨b, o, rfl, hc, hrd, hg1⟩; have HG1 := Lib.hid (upd_trans HG.out hg1); unfold bv at hc; clear hrd hg1)
        exact ⟨rfl, .inr ⟨HN.out, rfl, HG1.out⟩⟩
      by_cases h3 : c.toNat < 128
      · by_cases h4 : c.toNat = 0 ∧ 0 < j
        · obtain ⟨h4, h5⟩ := h4
          have HN : Hid (dnum l = none) := by
            show _ = _; rw [← HD.out]; unfold dnAt
            have hb : (j == 0) = false := by simp; omega
            rw [hb]
            cases (9 - j) with
            | zero => simp only [dn]; rw [if_neg (by omega), if_pos ⟨h4, by trivial⟩]; rfl
            | succ f => simp only [dn]; rw [if_pos h3, if_pos ⟨h4, by trivial⟩]; rfl
          have hcg : ((c.toNat : Int)) = 0 := by omega
          have hc0 : ((c.toNat : Int) == 0) = true := by simp [h4]
          have hc1 : ¬ (1 : Int) < (c.toNat : Int) := by omega
          have hj0 : (0 : Int) < (j : Int) := by omega
          have hd0 : decide ((0 : Int) < (j : Int)) = true := by simpa using hj0
          go_wp2_with (go_at_call 39; refine (take1 Bd R c r _ HRd.out).mono ?_; rintro e w1 ⟨b, o, rfl, hc, hrd, hg1⟩; have HG1 := Lib.hid (upd_trans HG.out hg1); have HR1 := Lib.hid hrd; unfold bv at hc; clear hrd hg1)
          all_goals exact ⟨rfl, .inr ⟨HN.out, rfl, HG1.out⟩⟩
        · have HN : Hid (dnum l = some (u + 128 ^ j * c.toNat, r)) := by
            show _ = _; rw [← HD.out]; unfold dnAt
            have hb : ¬ (c.toNat = 0 ∧ (j == 0) = false) := by
              rintro ⟨x1, x2⟩; exact h4 ⟨x1, by simp at x2; omega⟩
            cases hf : (9 - j) with
            | zero => simp only [dn]; rw [if_neg (by omega), if_neg hb]; rfl
            | succ f => simp only [dn]; rw [if_pos h3, if_neg hb]; rfl
          by_cases h5 : c.toNat = 0
          · have hj0 : j = 0 := by omega
            subst hj0
            have hcg : ((c.toNat : Int)) = 0 := by omega
            have hc0 : ((c.toNat : Int) == 0) = true := by simp [h5]
            go_wp2_with (go_at_call 39; refine (take1 Bd R c r _ HRd.out).mono ?_; rintro e w1 ⟨b, o, rfl, hc, hrd, hg1⟩; have HG1 := Lib.hid (upd_trans HG.out hg1); have HR1 := Lib.hid hrd; unfold bv at hc; clear hrd hg1)
            go_ret
            refine num_ret HN.out ?_ HR1.out HG1.out
            rw [or_zero u (by have := HU.out; omega), h5]; simp
          · have hc0 : ((c.toNat : Int) == 0) = false := by simp [h5]
            by_cases h9 : j = 9
            · subst h9
              have hc1 : ¬ (1 : Int) < (c.toNat : Int) := by omega
              go_wp2_with (go_at_call 39; refine (take1 Bd R c r _ HRd.out).mono ?_; rintro e w1 ⟨b, o, rfl, hc, hrd, hg1⟩; have HG1 := Lib.hid (upd_trans HG.out hg1); have HR1 := Lib.hid hrd; unfold bv at hc; clear hrd hg1)
              go_ret
              exact num_ret HN.out (or_digit9 u c.toNat HU.out (by omega)) HR1.out HG1.out
            · have h9' : ((j : Int) == 9) = false := by simp; omega
              have hcc : (c.toNat : Int) < 128 := by omega
              go_wp2_with (go_at_call 39; refine (take1 Bd R c r _ HRd.out).mono ?_; rintro e w1 ⟨b, o, rfl, hc, hrd, hg1⟩; have HG1 := Lib.hid (upd_trans HG.out hg1); have HR1 := Lib.hid hrd; unfold bv at hc; clear hrd hg1)
              go_ret
              exact num_ret HN.out (or_digit u c.toNat j HU.out (by omega) (by omega)) HR1.out HG1.out
      · have hj8 : j < 9 := by omega
        have HN : Hid (dnAt (j + 1) (u + 128 ^ j * (c.toNat - 128)) r = dnum l) := by
          show _ = _; rw [← HD.out]; unfold dnAt
          rw [show 9 - j = (9 - (j + 1)) + 1 from by omega, show (j + 1 == 0) = false from by simp]
          simp only [dn]; rw [if_neg h3]
          cases dn (9 - (j + 1)) false r with
          | none => rfl
          | some x =>
            simp only [Option.map_some]
            congr 2
            rw [Nat.pow_succ, Nat.mul_add, Nat.mul_assoc, Nat.add_assoc]
        have h9' : ((j : Int) == 9) = false := by simp; omega
        have hcc : ¬ (c.toNat : Int) < 128 := by omega
        have HU' : Hid (u + 128 ^ j * (c.toNat - 128) < 128 ^ (j + 1)) := by
          show _ < _
          have h1 := HU.out
          have h2 : 128 ^ j * (c.toNat - 128) ≤ 128 ^ j * 127 := Nat.mul_le_mul (Nat.le_refl _) (by omega)
          rw [Nat.pow_succ]; omega
        go_wp2_with (go_at_call 39; refine (take1 Bd R c r _ HRd.out).mono ?_; rintro e w1 ⟨b, o, rfl, hc, hrd, hg1⟩; have HG1 := Lib.hid (upd_trans HG.out hg1); have HR1 := Lib.hid hrd; unfold bv at hc; clear hrd hg1)
        go_roundw
        case rel =>
          refine ⟨j + 1, u + 128 ^ j * (c.toNat - 128), r, by go_num, ?_, by omega, HU', HR1, HN, HG1.out⟩
          have h1 := or_digit u (c.toNat - 128) j HU.out (by omega) hj8
          rw [show (((c.toNat - 128 : Nat) : Int)) % 128 = (c.toNat : Int) % 128 from by omega] at h1
          rw [h1]
        case measure => simp [intOf]; omega
end Go.Proofs.Ytihllbblehjhlaa
