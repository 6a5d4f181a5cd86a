/-
  math/bits.Div64 at a divisor of 61 bits; products, sums and differences modulo Q.
  math/bits.Div64 at the divisor 4611686018427377339.
  math/bits.Div64 at the divisor 4611686018427377336.
  math/bits.Div64 at the divisor 2305843009213688668.
-/
import Derived.Test.YteigldfdaciopaaGreatDoorChecked
import Derived.Test.YteigldfdaciopaaGreatDoorShelf
import Derived.Test.YteigldfdaciopaaGreatDoorPkN
import Derived.WalkKit
import Derived.WalkSpells
import Derived.WalkLawsBesides
import Derived.Lib.Hide
import Derived.StillTailTactics
import Derived.Deep.QuietTactic
set_option linter.unusedVariables false
set_option linter.unusedSimpArgs false
namespace Go.Proofs.YteigldfdaciopaaGreatDoor
open Go.RowKit
set_option linter.unusedVariables false
set_option linter.unusedSimpArgs false

theorem wrapU (a : Int) (h0 : 0 ≤ a) (h : a < 18446744073709551616) : IntKind.u64.wrap a = a := by rw [IntKind.wrap_u64]; omega
theorem yAnd : bits .and .u64 18446744073709509352 4294967295 = 4294925032 := by
  have h := bits_and_u64_nat 18446744073709509352 4294967295 (by omega) (by omega)
  have e : (18446744073709509352 : Nat) &&& 4294967295 = 4294925032 := by decide +kernel
  rw [e] at h; exact h
theorem orHi (hi lo : Nat) (hh : hi < 2305843009213693952) (hl : lo < 18446744073709551616) : bits .or .u64 ((hi : Int) * 8) ((lo : Int) / 2305843009213693952) = ((hi * 8 + lo / 2305843009213693952 : Nat) : Int) := by
  have e1 : (hi : Int) * 8 = ((hi * 8 : Nat) : Int) := by omega
  have e2 : (lo : Int) / 2305843009213693952 = ((lo / 2305843009213693952 : Nat) : Int) := by omega
  rw [e1, e2, bits_or_u64_nat _ _ (by omega) (by omega)]
  congr 1
  have := Nat.two_pow_add_eq_or_of_lt (i := 3) (b := lo / 2305843009213693952) (by omega) hi
  rw [Nat.mul_comm hi 8]; exact this.symm
theorem lowHalf (a : Nat) (h : a < 18446744073709551616) : bits .and .u64 (a : Int) 4294967295 = ((a % 4294967296 : Nat) : Int) := by
  have h2 := bits_and_u64_nat a 4294967295 h (by omega)
  have e : a &&& 4294967295 = a % 4294967296 := Nat.and_two_pow_sub_one_eq_mod a 32
  rw [e] at h2; exact h2

set_option maxHeartbeats 400000 in
theorem div64_zero (lo : Nat) (hlo : lo < 18446744073709551616) (w : World) :
    Calls Tryz.prog 90 #[.int .u64 0, .int .u64 lo, .int .u64 2305843009213688669] w fun e w' => (∃ q : Int, e = .returned (.tuple #[.int .u64 q, .int .u64 ((lo % 2305843009213688669 : Nat) : Int)])) ∧ ∃ k, w' = w.drewN k := by
  go_enter Tryz.func90, Tryz.ntmps90
  go_wp2_with fail
  go_quiet (fail)
  go_wp2_with fail
  have e : ((lo : Int)).tmod 2305843009213688669 = ((lo % 2305843009213688669 : Nat) : Int) := by rw [Int.tmod_eq_emod_of_nonneg (by omega)]; omega
  rw [← e]
  go_ret2
  exact ⟨⟨_, rfl⟩, _, rfl⟩

theorem lz (w : World) : Calls Tryz.prog 104 #[.int .u64 2305843009213688669] w fun e w' => e = .returned (.int .i64 3) ∧ w' = w := by
  have h := Tryz.bits_LeadingZeros64 2305843009213688669 w (by omega) (by omega)
  have e : (64 - (Lib.bitLen (2305843009213688669 : Int).toNat : Int)) = 3 := by decide +kernel
  rw [e] at h
  exact h

/-- What a round of the search for a digit keeps: q is not too small, r is what is left. -/
def Dig (U u q r : Nat) : Prop := q * 4294967295 + r = U ∧ r < 4294967296 ∧ U * 4294967296 + u < (q + 1) * 18446744073709509352
theorem Dig.start (U u : Nat) (hU : U < 18446744073709509352) (hu : u < 4294967296) : Dig U u (U / 4294967295) (U % 4294967295) := by
  unfold Dig; omega
theorem Dig.test {U u q r : Nat} (h : Dig U u q r) : ¬ q * 4294925032 > 4294967296 * r + u → q * 18446744073709509352 ≤ U * 4294967296 + u := by
  intro h2
  obtain ⟨h3, h4, h5⟩ := h
  clear h5
  omega
theorem Dig.less {U u q r : Nat} (h : Dig U u q r) (hU : U < 18446744073709509352) (hu : u < 4294967296) (ht : q ≥ 4294967296 ∨ q * 4294925032 > 4294967296 * r + u) : 1 ≤ q ∧ U * 4294967296 + u < q * 18446744073709509352 := by
  obtain ⟨h3, h4, h5⟩ := h
  clear h5
  rcases ht with ht | ht
  · clear h3 h4; omega
  · clear hU; omega
theorem Dig.step {U u q r : Nat} (h : Dig U u q r) (hU : U < 18446744073709509352) (hu : u < 4294967296) (ht : q ≥ 4294967296 ∨ q * 4294925032 > 4294967296 * r + u) (hr : r + 4294967295 < 4294967296) : Dig U u (q - 1) (r + 4294967295) := by
  obtain ⟨a, b⟩ := h.less hU hu ht
  obtain ⟨h3, h4, h5⟩ := h
  clear ht h5 hU hu
  obtain ⟨p, rfl⟩ : ∃ p, q = p + 1 := ⟨q - 1, by omega⟩
  refine ⟨?_, hr, ?_⟩
  · rw [Nat.add_sub_cancel]; rw [Nat.add_mul, Nat.one_mul] at h3; rw [← h3, Nat.add_assoc, Nat.add_comm r]
  · rw [Nat.add_sub_cancel]; exact b
theorem Dig.stop {U u q r : Nat} (h : Dig U u q r) (hU : U < 18446744073709509352) (hu : u < 4294967296) (ht : q ≥ 4294967296 ∨ q * 4294925032 > 4294967296 * r + u) (hr : ¬ r + 4294967295 < 4294967296) : (q - 1) * 18446744073709509352 ≤ U * 4294967296 + u ∧ U * 4294967296 + u < (q - 1 + 1) * 18446744073709509352 := by
  obtain ⟨a, b⟩ := h.less hU hu ht
  obtain ⟨h3, h4, h5⟩ := h
  clear ht h5
  obtain ⟨p, rfl⟩ : ∃ p, q = p + 1 := ⟨q - 1, by omega⟩
  rw [Nat.add_sub_cancel]
  refine ⟨?_, b⟩
  clear b a
  omega
theorem dq (U : Nat) (h : U < 18446744073709551616) : IntKind.u64.wrap ((U : Int).tdiv 4294967295) = ((U / 4294967295 : Nat) : Int) := by
  rw [Int.tdiv_eq_ediv_of_nonneg (Int.natCast_nonneg U), show (U : Int) / 4294967295 = ((U / 4294967295 : Nat) : Int) by omega]
  have : U / 4294967295 ≤ U := Nat.div_le_self _ _
  exact wrapU _ (Int.natCast_nonneg _) (by omega)
theorem dr (U : Nat) (h : U < 18446744073709551616) : IntKind.u64.wrap ((U : Int) - IntKind.u64.wrap (((U / 4294967295 : Nat) : Int) * 4294967295)) = ((U % 4294967295 : Nat) : Int) := by
  have h1 : U / 4294967295 * 4294967295 + U % 4294967295 = U := Nat.div_add_mod' U 4294967295
  have h2 : U % 4294967295 < 4294967295 := Nat.mod_lt _ (by decide)
  generalize U / 4294967295 = q at *
  generalize U % 4294967295 = r at *
  rw [wrapU ((q : Int) * 4294967295) (by omega) (by omega), wrapU _ (by omega) (by omega)]; omega
theorem dN (hi lo : Nat) : hi * 18446744073709551616 * 8 + lo * 8 = ((hi * 8 + lo / 2305843009213693952) * 4294967296 + lo * 8 % 18446744073709551616 / 4294967296) * 4294967296 + lo * 8 % 18446744073709551616 % 4294967296 := by
  have h1 : lo * 8 / 18446744073709551616 = lo / 2305843009213693952 := by omega
  have h2 := Nat.div_add_mod (lo * 8) 18446744073709551616
  rw [h1] at h2
  generalize lo * 8 % 18446744073709551616 = L at *
  have h3 := Nat.div_add_mod L 4294967296
  generalize lo / 2305843009213693952 = t at *
  generalize L / 4294967296 = a at *
  generalize L % 4294967296 = b at *
  omega

theorem wrapSub (X Z u Y : Nat) (h1 : Z ≤ X + u) (h2 : X + u < Z + Y) (hY : Y ≤ 18446744073709551616) : IntKind.u64.wrap (IntKind.u64.wrap (IntKind.u64.wrap (X : Int) + (u : Int)) - IntKind.u64.wrap (Z : Int)) = ((X + u - Z : Nat) : Int) := by
  simp only [IntKind.wrap_u64]; omega
theorem dR (U u q : Nat) (h1 : q * 18446744073709509352 ≤ U * 4294967296 + u) (h2 : U * 4294967296 + u < (q + 1) * 18446744073709509352) :
    ∃ R, R < 18446744073709509352 ∧ U * 4294967296 + u = q * 18446744073709509352 + R ∧
      IntKind.u64.wrap (IntKind.u64.wrap (IntKind.u64.wrap ((U : Int) * 4294967296) + (u : Int)) - IntKind.u64.wrap ((q : Int) * 18446744073709509352)) = (R : Int) := by
  rw [Nat.add_mul, Nat.one_mul] at h2
  refine ⟨U * 4294967296 + u - q * 18446744073709509352, by omega, by omega, ?_⟩
  have e1 : (U : Int) * 4294967296 = ((U * 4294967296 : Nat) : Int) := by omega
  have e2 : (q : Int) * 18446744073709509352 = ((q * 18446744073709509352 : Nat) : Int) := by omega
  rw [e1, e2]
  exact wrapSub _ _ _ _ h1 h2 (by decide)
theorem dEnd {hi lo U u1 u0 q1 q0 R R2 : Nat} (hN : hi * 18446744073709551616 * 8 + lo * 8 = (U * 4294967296 + u1) * 4294967296 + u0) (h1 : U * 4294967296 + u1 = q1 * 18446744073709509352 + R)
    (h2 : R * 4294967296 + u0 = q0 * 18446744073709509352 + R2) (h3 : R2 < 18446744073709509352) : (R2 : Int) / 8 = (((hi * 18446744073709551616 + lo) % 2305843009213688669 : Nat) : Int) := by
  obtain ⟨N, hNd⟩ : ∃ N, hi * 18446744073709551616 + lo = N := ⟨_, rfl⟩
  have e : N * 8 = (q1 * 4294967296 + q0) * 18446744073709509352 + R2 := by
    have : N * 8 = hi * 18446744073709551616 * 8 + lo * 8 := by rw [← hNd, Nat.add_mul]
    rw [this, hN, h1, Nat.add_mul, Nat.add_assoc, h2, Nat.add_mul]
    clear this hN h1 h2 hNd h3
    omega
  rw [hNd]
  clear hN h1 h2 hNd
  obtain ⟨K, hK⟩ : ∃ K, q1 * 4294967296 + q0 = K := ⟨_, rfl⟩
  rw [hK] at e
  clear hK
  have e3 : N = K * 2305843009213688669 + R2 / 8 := by omega
  have e4 : N % 2305843009213688669 = R2 / 8 := by
    rw [e3, Nat.mul_comm, Nat.mul_add_mod, Nat.mod_eq_of_lt (by omega)]
  rw [e4]
  omega

set_option maxHeartbeats 400000 in
set_option pp.deepTerms true in
set_option pp.maxSteps 1000000 in
theorem div64_pos (hi lo : Nat) (h0 : 0 < hi) (hhi : hi < 2305843009213688669) (hlo : lo < 18446744073709551616) (w : World) :
    Calls Tryz.prog 90 #[.int .u64 hi, .int .u64 lo, .int .u64 2305843009213688669] w fun e w' => (∃ q : Int, e = .returned (.tuple #[.int .u64 q, .int .u64 (((hi * 18446744073709551616 + lo) % 2305843009213688669 : Nat) : Int)])) ∧ w' = w := by
  have f0 : ((hi : Int) == 0) = false := by simp; omega
  have f1 : decide (2305843009213688669 ≤ (hi : Int)) = false := decide_eq_false (by omega)
  have hU := orHi hi lo (by omega) hlo
  obtain ⟨L, hLd⟩ : ∃ L, lo * 8 % 18446744073709551616 = L := ⟨_, rfl⟩
  have hL : IntKind.u64.wrap ((lo : Int) * 8) = (L : Int) := by rw [IntKind.wrap_u64]; omega
  have hLlt : L < 18446744073709551616 := by omega
  have hL1 : (L : Int) / 4294967296 = ((L / 4294967296 : Nat) : Int) := by omega
  have hL0 := lowHalf L hLlt
  have hu1l : L / 4294967296 < 4294967296 := by omega
  have hu0l : L % 4294967296 < 4294967296 := Nat.mod_lt _ (by decide)
  obtain ⟨U, hUd⟩ : ∃ U, hi * 8 + lo / 2305843009213693952 = U := ⟨_, rfl⟩
  rw [hUd] at hU
  have hUlt : U < 18446744073709509352 := by omega
  have hq := dq U (by omega)
  have hr := dr U (by omega)
  have hD := Dig.start U (L / 4294967296) hUlt hu1l
  have hN := dN hi lo
  rw [hLd, hUd] at hN
  obtain ⟨u1, hu1⟩ : ∃ u1, L / 4294967296 = u1 := ⟨_, rfl⟩
  obtain ⟨u0, hu0⟩ : ∃ u0, L % 4294967296 = u0 := ⟨_, rfl⟩
  rw [hu1] at hu1l; rw [hu0] at hu0l
  rw [hu1] at hL1 hD hN
  rw [hu0] at hL0 hN
  have HU := Lib.hid hU; have HL := Lib.hid hL; have HL1 := Lib.hid hL1; have HL0 := Lib.hid hL0; have HQ := Lib.hid hq; have HR := Lib.hid hr; have HDD := Lib.hid hD; have HN := Lib.hid hN
  clear hU hL hL1 hL0 hq hr hD hN hLd hUd hu1 hu0
  go_enter Tryz.func90, Tryz.ntmps90
  go_wp2_with (go_at_call 104; refine (lz _).mono ?_; rintro e w' ⟨rfl, hw⟩; rw [hw]; clear hw w')
  simp only [HU.out, HL.out, HL1.out, HL0.out, HQ.out, HR.out, yAnd]
  go_loopw [15, 16] (fun a b wr => ∃ q r : Nat, a = .int .u64 q ∧ b = .int .u64 r ∧ Dig U u1 q r ∧ wr = w) (fun a _ _ => (intOf a).toNat)
  case atStart => exact ⟨_, _, rfl, rfl, HDD.out, rfl⟩
  case round =>
    obtain ⟨q, r, rfl, rfl, hd, hw⟩ := hrel
    subst hw
    have hrl : r < 4294967296 := hd.2.1
    have hqU : q * 4294967295 + r = U := hd.1
    have hq1 : q < 4294967299 := by clear HN; omega
    by_cases ht : q ≥ 4294967296 ∨ q * 4294925032 > 4294967296 * r + u1
    · have hq0 : 1 ≤ q := by omega
      obtain ⟨q', hq'⟩ : ∃ q', q - 1 = q' := ⟨_, rfl⟩
      obtain ⟨r', hr'⟩ : ∃ r', r + 4294967295 = r' := ⟨_, rfl⟩
      have g1 : IntKind.u64.wrap ((q : Int) - 1) = (q' : Int) := by rw [wrapU _ (by omega) (by omega)]; omega
      have g2 : IntKind.u64.wrap ((r : Int) + 4294967295) = (r' : Int) := by rw [wrapU _ (by omega) (by omega)]; omega
      by_cases hs : r + 4294967295 < 4294967296
      · have hd' := hd.step hUlt hu1l ht hs
        rw [hq', hr'] at hd'
        have g3 : decide (4294967296 ≤ (r' : Int)) = false := decide_eq_false (by omega)
        by_cases t1 : q ≥ 4294967296
        · have f2 : decide (4294967296 ≤ (q : Int)) = true := decide_eq_true (by omega)
          clear hd hqU ht
          go_wp2_with fail
          go_roundw
          case rel => exact ⟨q', r', rfl, rfl, hd', trivial⟩
          case measure => simp [intOf]; omega
        · have f2 : decide (4294967296 ≤ (q : Int)) = false := decide_eq_false (by omega)
          have k1 : IntKind.u64.wrap ((q : Int) * 4294925032) = (q : Int) * 4294925032 := wrapU _ (by omega) (by omega)
          have k2 : IntKind.u64.wrap (4294967296 * (r : Int)) = 4294967296 * (r : Int) := wrapU _ (by omega) (by omega)
          have k3 : IntKind.u64.wrap (4294967296 * (r : Int) + (u1 : Int)) = 4294967296 * (r : Int) + (u1 : Int) := wrapU _ (by omega) (by omega)
          have k4 : decide (4294967296 * (r : Int) + (u1 : Int) < (q : Int) * 4294925032) = true := decide_eq_true (by omega)
          clear hd hqU ht
          go_wp2_with fail
          go_roundw
          case rel => exact ⟨q', r', rfl, rfl, hd', trivial⟩
          case measure => simp [intOf]; omega
      · have hd' := hd.stop hUlt hu1l ht hs
        rw [hq'] at hd'
        have g3 : decide (4294967296 ≤ (r' : Int)) = true := decide_eq_true (by omega)
        have hq1 : q' < 4294967296 := by omega
        have HE := Lib.hid hd'
        by_cases t1 : q ≥ 4294967296
        · have f2 : decide (4294967296 ≤ (q : Int)) = true := decide_eq_true (by omega)
          clear hd hd' hqU ht
          go_wp2_with fail
          clear HDD
          obtain ⟨R, hRl, HRe, hR⟩ := dR U u1 q' HE.out.1 HE.out.2
          have HRE := Lib.hid HRe
          clear HRe
          have hq2 := dq R (Nat.lt_trans hRl (by decide))
          have hr2 := dr R (Nat.lt_trans hRl (by decide))
          have HD2 := Lib.hid (Dig.start R u0 hRl hu0l)
          simp only [hR, hq2, hr2]
          clear hR hq2 hr2
          go_loopw [18, 16] (fun a b wr' => ∃ q r : Nat, a = .int .u64 q ∧ b = .int .u64 r ∧ Dig R u0 q r ∧ wr' = wr) (fun a _ _ => (intOf a).toNat)
          case atStart => exact ⟨_, _, rfl, rfl, HD2.out, rfl⟩
          case round =>
            clear HD2
            obtain ⟨Q, S, rfl, rfl, hd, hw⟩ := hrel
            subst hw
            have hrl : S < 4294967296 := hd.2.1
            have hqU : Q * 4294967295 + S = R := hd.1
            have hq2 : Q < 4294967299 := by clear HN; omega
            by_cases ht : Q ≥ 4294967296 ∨ Q * 4294925032 > 4294967296 * S + u0
            · have hq0 : 1 ≤ Q := by omega
              obtain ⟨Q', hQ'⟩ : ∃ q', Q - 1 = q' := ⟨_, rfl⟩
              obtain ⟨S', hS'⟩ : ∃ r', S + 4294967295 = r' := ⟨_, rfl⟩
              have g1 : IntKind.u64.wrap ((Q : Int) - 1) = (Q' : Int) := by rw [wrapU _ (by omega) (by omega)]; omega
              have g2 : IntKind.u64.wrap ((S : Int) + 4294967295) = (S' : Int) := by rw [wrapU _ (by omega) (by omega)]; omega
              by_cases hs : S + 4294967295 < 4294967296
              · have hd' := hd.step hRl hu0l ht hs
                rw [hQ', hS'] at hd'
                have g3 : decide (4294967296 ≤ (S' : Int)) = false := decide_eq_false (by omega)
                by_cases t1 : Q ≥ 4294967296
                · have f2 : decide (4294967296 ≤ (Q : Int)) = true := decide_eq_true (by omega)
                  clear hd hqU ht
                  go_wp2_with fail
                  go_roundw
                  case rel => exact ⟨Q', S', rfl, rfl, hd', trivial⟩
                  case measure => simp [intOf]; omega
                · have f2 : decide (4294967296 ≤ (Q : Int)) = false := decide_eq_false (by omega)
                  have k1 : IntKind.u64.wrap ((Q : Int) * 4294925032) = (Q : Int) * 4294925032 := wrapU _ (by omega) (by omega)
                  have k2 : IntKind.u64.wrap (4294967296 * (S : Int)) = 4294967296 * (S : Int) := wrapU _ (by omega) (by omega)
                  have k3 : IntKind.u64.wrap (4294967296 * (S : Int) + (u0 : Int)) = 4294967296 * (S : Int) + (u0 : Int) := wrapU _ (by omega) (by omega)
                  have k4 : decide (4294967296 * (S : Int) + (u0 : Int) < (Q : Int) * 4294925032) = true := decide_eq_true (by omega)
                  clear hd hqU ht
                  go_wp2_with fail
                  go_roundw
                  case rel => exact ⟨Q', S', rfl, rfl, hd', trivial⟩
                  case measure => simp [intOf]; omega
              · have hd' := hd.stop hRl hu0l ht hs
                rw [hQ'] at hd'
                have g3 : decide (4294967296 ≤ (S' : Int)) = true := decide_eq_true (by omega)
                obtain ⟨R2, hR2l, hR2e, hR2⟩ := dR R u0 Q' hd'.1 hd'.2
                have HE2 := Lib.hid (dEnd HN.out HRE.out hR2e hR2l)
                have HR2 := Lib.hid hR2
                clear hR2 hR2e hR2l hd'
                by_cases t1 : Q ≥ 4294967296
                · have f2 : decide (4294967296 ≤ (Q : Int)) = true := decide_eq_true (by omega)
                  clear hd hqU ht
                  go_wp2_with fail
                  simp only [HR2.out, HE2.out]
                  go_ret2
                  exact ⟨⟨_, rfl⟩, rfl⟩
                · have f2 : decide (4294967296 ≤ (Q : Int)) = false := decide_eq_false (by omega)
                  have k1 : IntKind.u64.wrap ((Q : Int) * 4294925032) = (Q : Int) * 4294925032 := wrapU _ (by omega) (by omega)
                  have k2 : IntKind.u64.wrap (4294967296 * (S : Int)) = 4294967296 * (S : Int) := wrapU _ (by omega) (by omega)
                  have k3 : IntKind.u64.wrap (4294967296 * (S : Int) + (u0 : Int)) = 4294967296 * (S : Int) + (u0 : Int) := wrapU _ (by omega) (by omega)
                  have k4 : decide (4294967296 * (S : Int) + (u0 : Int) < (Q : Int) * 4294925032) = true := decide_eq_true (by omega)
                  clear hd hqU ht
                  go_wp2_with fail
                  simp only [HR2.out, HE2.out]
                  go_ret2
                  exact ⟨⟨_, rfl⟩, rfl⟩
            · have hn1 : ¬ Q ≥ 4294967296 := fun h => ht (.inl h)
              have hn2 : ¬ Q * 4294925032 > 4294967296 * S + u0 := fun h => ht (.inr h)
              obtain ⟨R2, hR2l, hR2e, hR2⟩ := dR R u0 Q (hd.test hn2) hd.2.2
              have HE2 := Lib.hid (dEnd HN.out HRE.out hR2e hR2l)
              have HR2 := Lib.hid hR2
              clear hR2 hR2e hR2l
              have f2 : decide (4294967296 ≤ (Q : Int)) = false := decide_eq_false (by omega)
              have k1 : IntKind.u64.wrap ((Q : Int) * 4294925032) = (Q : Int) * 4294925032 := wrapU _ (by omega) (by omega)
              have k2 : IntKind.u64.wrap (4294967296 * (S : Int)) = 4294967296 * (S : Int) := wrapU _ (by omega) (by omega)
              have k3 : IntKind.u64.wrap (4294967296 * (S : Int) + (u0 : Int)) = 4294967296 * (S : Int) + (u0 : Int) := wrapU _ (by omega) (by omega)
              have k4 : decide (4294967296 * (S : Int) + (u0 : Int) < (Q : Int) * 4294925032) = false := decide_eq_false (by omega)
              clear hd hqU ht hn2
              go_wp2_with fail
              simp only [HR2.out, HE2.out]
              go_ret2
              exact ⟨⟨_, rfl⟩, rfl⟩
        · have f2 : decide (4294967296 ≤ (q : Int)) = false := decide_eq_false (by omega)
          have k1 : IntKind.u64.wrap ((q : Int) * 4294925032) = (q : Int) * 4294925032 := wrapU _ (by omega) (by omega)
          have k2 : IntKind.u64.wrap (4294967296 * (r : Int)) = 4294967296 * (r : Int) := wrapU _ (by omega) (by omega)
          have k3 : IntKind.u64.wrap (4294967296 * (r : Int) + (u1 : Int)) = 4294967296 * (r : Int) + (u1 : Int) := wrapU _ (by omega) (by omega)
          have k4 : decide (4294967296 * (r : Int) + (u1 : Int) < (q : Int) * 4294925032) = true := decide_eq_true (by omega)
          clear hd hd' hqU ht
          go_wp2_with fail
          clear HDD
          obtain ⟨R, hRl, HRe, hR⟩ := dR U u1 q' HE.out.1 HE.out.2
          have HRE := Lib.hid HRe
          clear HRe
          have hq2 := dq R (Nat.lt_trans hRl (by decide))
          have hr2 := dr R (Nat.lt_trans hRl (by decide))
          have HD2 := Lib.hid (Dig.start R u0 hRl hu0l)
          simp only [hR, hq2, hr2]
          clear hR hq2 hr2
          go_loopw [18, 16] (fun a b wr' => ∃ q r : Nat, a = .int .u64 q ∧ b = .int .u64 r ∧ Dig R u0 q r ∧ wr' = wr) (fun a _ _ => (intOf a).toNat)
          case atStart => exact ⟨_, _, rfl, rfl, HD2.out, rfl⟩
          case round =>
            clear HD2
            obtain ⟨Q, S, rfl, rfl, hd, hw⟩ := hrel
            subst hw
            have hrl : S < 4294967296 := hd.2.1
            have hqU : Q * 4294967295 + S = R := hd.1
            have hq2 : Q < 4294967299 := by clear HN; omega
            by_cases ht : Q ≥ 4294967296 ∨ Q * 4294925032 > 4294967296 * S + u0
            · have hq0 : 1 ≤ Q := by omega
              obtain ⟨Q', hQ'⟩ : ∃ q', Q - 1 = q' := ⟨_, rfl⟩
              obtain ⟨S', hS'⟩ : ∃ r', S + 4294967295 = r' := ⟨_, rfl⟩
              have g1 : IntKind.u64.wrap ((Q : Int) - 1) = (Q' : Int) := by rw [wrapU _ (by omega) (by omega)]; omega
              have g2 : IntKind.u64.wrap ((S : Int) + 4294967295) = (S' : Int) := by rw [wrapU _ (by omega) (by omega)]; omega
              by_cases hs : S + 4294967295 < 4294967296
              · have hd' := hd.step hRl hu0l ht hs
                rw [hQ', hS'] at hd'
                have g3 : decide (4294967296 ≤ (S' : Int)) = false := decide_eq_false (by omega)
                by_cases t1 : Q ≥ 4294967296
                · have f2 : decide (4294967296 ≤ (Q : Int)) = true := decide_eq_true (by omega)
                  clear hd hqU ht
                  go_wp2_with fail
                  go_roundw
                  case rel => exact ⟨Q', S', rfl, rfl, hd', trivial⟩
                  case measure => simp [intOf]; omega
                · have f2 : decide (4294967296 ≤ (Q : Int)) = false := decide_eq_false (by omega)
                  have k1 : IntKind.u64.wrap ((Q : Int) * 4294925032) = (Q : Int) * 4294925032 := wrapU _ (by omega) (by omega)
                  have k2 : IntKind.u64.wrap (4294967296 * (S : Int)) = 4294967296 * (S : Int) := wrapU _ (by omega) (by omega)
                  have k3 : IntKind.u64.wrap (4294967296 * (S : Int) + (u0 : Int)) = 4294967296 * (S : Int) + (u0 : Int) := wrapU _ (by omega) (by omega)
                  have k4 : decide (4294967296 * (S : Int) + (u0 : Int) < (Q : Int) * 4294925032) = true := decide_eq_true (by omega)
                  clear hd hqU ht
                  go_wp2_with fail
                  go_roundw
                  case rel => exact ⟨Q', S', rfl, rfl, hd', trivial⟩
                  case measure => simp [intOf]; omega
              · have hd' := hd.stop hRl hu0l ht hs
                rw [hQ'] at hd'
                have g3 : decide (4294967296 ≤ (S' : Int)) = true := decide_eq_true (by omega)
                obtain ⟨R2, hR2l, hR2e, hR2⟩ := dR R u0 Q' hd'.1 hd'.2
                have HE2 := Lib.hid (dEnd HN.out HRE.out hR2e hR2l)
                have HR2 := Lib.hid hR2
                clear hR2 hR2e hR2l hd'
                by_cases t1 : Q ≥ 4294967296
                · have f2 : decide (4294967296 ≤ (Q : Int)) = true := decide_eq_true (by omega)
                  clear hd hqU ht
                  go_wp2_with fail
                  simp only [HR2.out, HE2.out]
                  go_ret2
                  exact ⟨⟨_, rfl⟩, rfl⟩
                · have f2 : decide (4294967296 ≤ (Q : Int)) = false := decide_eq_false (by omega)
                  have k1 : IntKind.u64.wrap ((Q : Int) * 4294925032) = (Q : Int) * 4294925032 := wrapU _ (by omega) (by omega)
                  have k2 : IntKind.u64.wrap (4294967296 * (S : Int)) = 4294967296 * (S : Int) := wrapU _ (by omega) (by omega)
                  have k3 : IntKind.u64.wrap (4294967296 * (S : Int) + (u0 : Int)) = 4294967296 * (S : Int) + (u0 : Int) := wrapU _ (by omega) (by omega)
                  have k4 : decide (4294967296 * (S : Int) + (u0 : Int) < (Q : Int) * 4294925032) = true := decide_eq_true (by omega)
                  clear hd hqU ht
                  go_wp2_with fail
                  simp only [HR2.out, HE2.out]
                  go_ret2
                  exact ⟨⟨_, rfl⟩, rfl⟩
            · have hn1 : ¬ Q ≥ 4294967296 := fun h => ht (.inl h)
              have hn2 : ¬ Q * 4294925032 > 4294967296 * S + u0 := fun h => ht (.inr h)
              obtain ⟨R2, hR2l, hR2e, hR2⟩ := dR R u0 Q (hd.test hn2) hd.2.2
              have HE2 := Lib.hid (dEnd HN.out HRE.out hR2e hR2l)
              have HR2 := Lib.hid hR2
              clear hR2 hR2e hR2l
              have f2 : decide (4294967296 ≤ (Q : Int)) = false := decide_eq_false (by omega)
              have k1 : IntKind.u64.wrap ((Q : Int) * 4294925032) = (Q : Int) * 4294925032 := wrapU _ (by omega) (by omega)
              have k2 : IntKind.u64.wrap (4294967296 * (S : Int)) = 4294967296 * (S : Int) := wrapU _ (by omega) (by omega)
              have k3 : IntKind.u64.wrap (4294967296 * (S : Int) + (u0 : Int)) = 4294967296 * (S : Int) + (u0 : Int) := wrapU _ (by omega) (by omega)
              have k4 : decide (4294967296 * (S : Int) + (u0 : Int) < (Q : Int) * 4294925032) = false := decide_eq_false (by omega)
              clear hd hqU ht hn2
              go_wp2_with fail
              simp only [HR2.out, HE2.out]
              go_ret2
              exact ⟨⟨_, rfl⟩, rfl⟩
    · have hn1 : ¬ q ≥ 4294967296 := fun h => ht (.inl h)
      have hn2 : ¬ q * 4294925032 > 4294967296 * r + u1 := fun h => ht (.inr h)
      have HE := Lib.hid (And.intro (hd.test hn2) hd.2.2)
      have f2 : decide (4294967296 ≤ (q : Int)) = false := decide_eq_false (by omega)
      have k1 : IntKind.u64.wrap ((q : Int) * 4294925032) = (q : Int) * 4294925032 := wrapU _ (by omega) (by omega)
      have k2 : IntKind.u64.wrap (4294967296 * (r : Int)) = 4294967296 * (r : Int) := wrapU _ (by omega) (by omega)
      have k3 : IntKind.u64.wrap (4294967296 * (r : Int) + (u1 : Int)) = 4294967296 * (r : Int) + (u1 : Int) := wrapU _ (by omega) (by omega)
      have k4 : decide (4294967296 * (r : Int) + (u1 : Int) < (q : Int) * 4294925032) = false := decide_eq_false (by omega)
      clear hd hqU ht hn2
      go_wp2_with fail
      clear HDD
      obtain ⟨R, hRl, HRe, hR⟩ := dR U u1 q HE.out.1 HE.out.2
      have HRE := Lib.hid HRe
      clear HRe
      have hq2 := dq R (Nat.lt_trans hRl (by decide))
      have hr2 := dr R (Nat.lt_trans hRl (by decide))
      have HD2 := Lib.hid (Dig.start R u0 hRl hu0l)
      simp only [hR, hq2, hr2]
      clear hR hq2 hr2
      go_loopw [18, 16] (fun a b wr' => ∃ q r : Nat, a = .int .u64 q ∧ b = .int .u64 r ∧ Dig R u0 q r ∧ wr' = wr) (fun a _ _ => (intOf a).toNat)
      case atStart => exact ⟨_, _, rfl, rfl, HD2.out, rfl⟩
      case round =>
        clear HD2
        obtain ⟨Q, S, rfl, rfl, hd, hw⟩ := hrel
        subst hw
        have hrl : S < 4294967296 := hd.2.1
        have hqU : Q * 4294967295 + S = R := hd.1
        have hq2 : Q < 4294967299 := by clear HN; omega
        by_cases ht : Q ≥ 4294967296 ∨ Q * 4294925032 > 4294967296 * S + u0
        · have hq0 : 1 ≤ Q := by omega
          obtain ⟨Q', hQ'⟩ : ∃ q', Q - 1 = q' := ⟨_, rfl⟩
          obtain ⟨S', hS'⟩ : ∃ r', S + 4294967295 = r' := ⟨_, rfl⟩
          have g1 : IntKind.u64.wrap ((Q : Int) - 1) = (Q' : Int) := by rw [wrapU _ (by omega) (by omega)]; omega
          have g2 : IntKind.u64.wrap ((S : Int) + 4294967295) = (S' : Int) := by rw [wrapU _ (by omega) (by omega)]; omega
          by_cases hs : S + 4294967295 < 4294967296
          · have hd' := hd.step hRl hu0l ht hs
            rw [hQ', hS'] at hd'
            have g3 : decide (4294967296 ≤ (S' : Int)) = false := decide_eq_false (by omega)
            by_cases t1 : Q ≥ 4294967296
            · have f2 : decide (4294967296 ≤ (Q : Int)) = true := decide_eq_true (by omega)
              clear hd hqU ht
              go_wp2_with fail
              go_roundw
              case rel => exact ⟨Q', S', rfl, rfl, hd', trivial⟩
              case measure => simp [intOf]; omega
            · have f2 : decide (4294967296 ≤ (Q : Int)) = false := decide_eq_false (by omega)
              have k1 : IntKind.u64.wrap ((Q : Int) * 4294925032) = (Q : Int) * 4294925032 := wrapU _ (by omega) (by omega)
              have k2 : IntKind.u64.wrap (4294967296 * (S : Int)) = 4294967296 * (S : Int) := wrapU _ (by omega) (by omega)
              have k3 : IntKind.u64.wrap (4294967296 * (S : Int) + (u0 : Int)) = 4294967296 * (S : Int) + (u0 : Int) := wrapU _ (by omega) (by omega)
              have k4 : decide (4294967296 * (S : Int) + (u0 : Int) < (Q : Int) * 4294925032) = true := decide_eq_true (by omega)
              clear hd hqU ht
              go_wp2_with fail
              go_roundw
              case rel => exact ⟨Q', S', rfl, rfl, hd', trivial⟩
              case measure => simp [intOf]; omega
          · have hd' := hd.stop hRl hu0l ht hs
            rw [hQ'] at hd'
            have g3 : decide (4294967296 ≤ (S' : Int)) = true := decide_eq_true (by omega)
            obtain ⟨R2, hR2l, hR2e, hR2⟩ := dR R u0 Q' hd'.1 hd'.2
            have HE2 := Lib.hid (dEnd HN.out HRE.out hR2e hR2l)
            have HR2 := Lib.hid hR2
            clear hR2 hR2e hR2l hd'
            by_cases t1 : Q ≥ 4294967296
            · have f2 : decide (4294967296 ≤ (Q : Int)) = true := decide_eq_true (by omega)
              clear hd hqU ht
              go_wp2_with fail
              simp only [HR2.out, HE2.out]
              go_ret2
              exact ⟨⟨_, rfl⟩, rfl⟩
            · have f2 : decide (4294967296 ≤ (Q : Int)) = false := decide_eq_false (by omega)
              have k1 : IntKind.u64.wrap ((Q : Int) * 4294925032) = (Q : Int) * 4294925032 := wrapU _ (by omega) (by omega)
              have k2 : IntKind.u64.wrap (4294967296 * (S : Int)) = 4294967296 * (S : Int) := wrapU _ (by omega) (by omega)
              have k3 : IntKind.u64.wrap (4294967296 * (S : Int) + (u0 : Int)) = 4294967296 * (S : Int) + (u0 : Int) := wrapU _ (by omega) (by omega)
              have k4 : decide (4294967296 * (S : Int) + (u0 : Int) < (Q : Int) * 4294925032) = true := decide_eq_true (by omega)
              clear hd hqU ht
              go_wp2_with fail
              simp only [HR2.out, HE2.out]
              go_ret2
              exact ⟨⟨_, rfl⟩, rfl⟩
        · have hn1 : ¬ Q ≥ 4294967296 := fun h => ht (.inl h)
          have hn2 : ¬ Q * 4294925032 > 4294967296 * S + u0 := fun h => ht (.inr h)
          obtain ⟨R2, hR2l, hR2e, hR2⟩ := dR R u0 Q (hd.test hn2) hd.2.2
          have HE2 := Lib.hid (dEnd HN.out HRE.out hR2e hR2l)
          have HR2 := Lib.hid hR2
          clear hR2 hR2e hR2l
          have f2 : decide (4294967296 ≤ (Q : Int)) = false := decide_eq_false (by omega)
          have k1 : IntKind.u64.wrap ((Q : Int) * 4294925032) = (Q : Int) * 4294925032 := wrapU _ (by omega) (by omega)
          have k2 : IntKind.u64.wrap (4294967296 * (S : Int)) = 4294967296 * (S : Int) := wrapU _ (by omega) (by omega)
          have k3 : IntKind.u64.wrap (4294967296 * (S : Int) + (u0 : Int)) = 4294967296 * (S : Int) + (u0 : Int) := wrapU _ (by omega) (by omega)
          have k4 : decide (4294967296 * (S : Int) + (u0 : Int) < (Q : Int) * 4294925032) = false := decide_eq_false (by omega)
          clear hd hqU ht hn2
          go_wp2_with fail
          simp only [HR2.out, HE2.out]
          go_ret2
          exact ⟨⟨_, rfl⟩, rfl⟩
end Go.Proofs.YteigldfdaciopaaGreatDoor

namespace Go.Proofs.YteigldfdaciopaaGreatDoor.P
open Go.RowKit
set_option linter.unusedVariables false
set_option linter.unusedSimpArgs false

theorem wrapU (a : Int) (h0 : 0 ≤ a) (h : a < 18446744073709551616) : IntKind.u64.wrap a = a := by rw [IntKind.wrap_u64]; omega
theorem yAnd : bits .and .u64 18446744073709509356 4294967295 = 4294925036 := by
  have h := bits_and_u64_nat 18446744073709509356 4294967295 (by omega) (by omega)
  have e : (18446744073709509356 : Nat) &&& 4294967295 = 4294925036 := by decide +kernel
  rw [e] at h; exact h
theorem orHi (hi lo : Nat) (hh : hi < 4611686018427387904) (hl : lo < 18446744073709551616) : bits .or .u64 ((hi : Int) * 4) ((lo : Int) / 4611686018427387904) = ((hi * 4 + lo / 4611686018427387904 : Nat) : Int) := by
  have e1 : (hi : Int) * 4 = ((hi * 4 : Nat) : Int) := by omega
  have e2 : (lo : Int) / 4611686018427387904 = ((lo / 4611686018427387904 : Nat) : Int) := by omega
  rw [e1, e2, bits_or_u64_nat _ _ (by omega) (by omega)]
  congr 1
  have := Nat.two_pow_add_eq_or_of_lt (i := 2) (b := lo / 4611686018427387904) (by omega) hi
  rw [Nat.mul_comm hi 4]; exact this.symm
theorem lowHalf (a : Nat) (h : a < 18446744073709551616) : bits .and .u64 (a : Int) 4294967295 = ((a % 4294967296 : Nat) : Int) := by
  have h2 := bits_and_u64_nat a 4294967295 h (by omega)
  have e : a &&& 4294967295 = a % 4294967296 := Nat.and_two_pow_sub_one_eq_mod a 32
  rw [e] at h2; exact h2

set_option maxHeartbeats 400000 in
theorem div64_zero (lo : Nat) (hlo : lo < 18446744073709551616) (w : World) :
    Calls Tryz.prog 90 #[.int .u64 0, .int .u64 lo, .int .u64 4611686018427377339] w fun e w' => (∃ q : Int, e = .returned (.tuple #[.int .u64 q, .int .u64 ((lo % 4611686018427377339 : Nat) : Int)])) ∧ ∃ k, w' = w.drewN k := by
  go_enter Tryz.func90, Tryz.ntmps90
  go_wp2_with fail
  go_quiet (fail)
  go_wp2_with fail
  have e : ((lo : Int)).tmod 4611686018427377339 = ((lo % 4611686018427377339 : Nat) : Int) := by rw [Int.tmod_eq_emod_of_nonneg (by omega)]; omega
  rw [← e]
  go_ret2
  exact ⟨⟨_, rfl⟩, _, rfl⟩

theorem lz (w : World) : Calls Tryz.prog 104 #[.int .u64 4611686018427377339] w fun e w' => e = .returned (.int .i64 2) ∧ w' = w := by
  have h := Tryz.bits_LeadingZeros64 4611686018427377339 w (by omega) (by omega)
  have e : (64 - (Lib.bitLen (4611686018427377339 : Int).toNat : Int)) = 2 := by decide +kernel
  rw [e] at h
  exact h

/-- What a round of the search for a digit keeps: q is not too small, r is what is left. -/
def Dig (U u q r : Nat) : Prop := q * 4294967295 + r = U ∧ r < 4294967296 ∧ U * 4294967296 + u < (q + 1) * 18446744073709509356
theorem Dig.start (U u : Nat) (hU : U < 18446744073709509356) (hu : u < 4294967296) : Dig U u (U / 4294967295) (U % 4294967295) := by
  unfold Dig; omega
theorem Dig.test {U u q r : Nat} (h : Dig U u q r) : ¬ q * 4294925036 > 4294967296 * r + u → q * 18446744073709509356 ≤ U * 4294967296 + u := by
  intro h2
  obtain ⟨h3, h4, h5⟩ := h
  clear h5
  omega
theorem Dig.less {U u q r : Nat} (h : Dig U u q r) (hU : U < 18446744073709509356) (hu : u < 4294967296) (ht : q ≥ 4294967296 ∨ q * 4294925036 > 4294967296 * r + u) : 1 ≤ q ∧ U * 4294967296 + u < q * 18446744073709509356 := by
  obtain ⟨h3, h4, h5⟩ := h
  clear h5
  rcases ht with ht | ht
  · clear h3 h4; omega
  · clear hU; omega
theorem Dig.step {U u q r : Nat} (h : Dig U u q r) (hU : U < 18446744073709509356) (hu : u < 4294967296) (ht : q ≥ 4294967296 ∨ q * 4294925036 > 4294967296 * r + u) (hr : r + 4294967295 < 4294967296) : Dig U u (q - 1) (r + 4294967295) := by
  obtain ⟨a, b⟩ := h.less hU hu ht
  obtain ⟨h3, h4, h5⟩ := h
  clear ht h5 hU hu
  obtain ⟨p, rfl⟩ : ∃ p, q = p + 1 := ⟨q - 1, by omega⟩
  refine ⟨?_, hr, ?_⟩
  · rw [Nat.add_sub_cancel]; rw [Nat.add_mul, Nat.one_mul] at h3; rw [← h3, Nat.add_assoc, Nat.add_comm r]
  · rw [Nat.add_sub_cancel]; exact b
theorem Dig.stop {U u q r : Nat} (h : Dig U u q r) (hU : U < 18446744073709509356) (hu : u < 4294967296) (ht : q ≥ 4294967296 ∨ q * 4294925036 > 4294967296 * r + u) (hr : ¬ r + 4294967295 < 4294967296) : (q - 1) * 18446744073709509356 ≤ U * 4294967296 + u ∧ U * 4294967296 + u < (q - 1 + 1) * 18446744073709509356 := by
  obtain ⟨a, b⟩ := h.less hU hu ht
  obtain ⟨h3, h4, h5⟩ := h
  clear ht h5
  obtain ⟨p, rfl⟩ : ∃ p, q = p + 1 := ⟨q - 1, by omega⟩
  rw [Nat.add_sub_cancel]
  refine ⟨?_, b⟩
  clear b a
  omega
theorem dq (U : Nat) (h : U < 18446744073709551616) : IntKind.u64.wrap ((U : Int).tdiv 4294967295) = ((U / 4294967295 : Nat) : Int) := by
  rw [Int.tdiv_eq_ediv_of_nonneg (Int.natCast_nonneg U), show (U : Int) / 4294967295 = ((U / 4294967295 : Nat) : Int) by omega]
  have : U / 4294967295 ≤ U := Nat.div_le_self _ _
  exact wrapU _ (Int.natCast_nonneg _) (by omega)
theorem dr (U : Nat) (h : U < 18446744073709551616) : IntKind.u64.wrap ((U : Int) - IntKind.u64.wrap (((U / 4294967295 : Nat) : Int) * 4294967295)) = ((U % 4294967295 : Nat) : Int) := by
  have h1 : U / 4294967295 * 4294967295 + U % 4294967295 = U := Nat.div_add_mod' U 4294967295
  have h2 : U % 4294967295 < 4294967295 := Nat.mod_lt _ (by decide)
  generalize U / 4294967295 = q at *
  generalize U % 4294967295 = r at *
  rw [wrapU ((q : Int) * 4294967295) (by omega) (by omega), wrapU _ (by omega) (by omega)]; omega
theorem dN (hi lo : Nat) : hi * 18446744073709551616 * 4 + lo * 4 = ((hi * 4 + lo / 4611686018427387904) * 4294967296 + lo * 4 % 18446744073709551616 / 4294967296) * 4294967296 + lo * 4 % 18446744073709551616 % 4294967296 := by
  have h1 : lo * 4 / 18446744073709551616 = lo / 4611686018427387904 := by omega
  have h2 := Nat.div_add_mod (lo * 4) 18446744073709551616
  rw [h1] at h2
  generalize lo * 4 % 18446744073709551616 = L at *
  have h3 := Nat.div_add_mod L 4294967296
  generalize lo / 4611686018427387904 = t at *
  generalize L / 4294967296 = a at *
  generalize L % 4294967296 = b at *
  omega

theorem wrapSub (X Z u Y : Nat) (h1 : Z ≤ X + u) (h2 : X + u < Z + Y) (hY : Y ≤ 18446744073709551616) : IntKind.u64.wrap (IntKind.u64.wrap (IntKind.u64.wrap (X : Int) + (u : Int)) - IntKind.u64.wrap (Z : Int)) = ((X + u - Z : Nat) : Int) := by
  simp only [IntKind.wrap_u64]; omega
theorem dR (U u q : Nat) (h1 : q * 18446744073709509356 ≤ U * 4294967296 + u) (h2 : U * 4294967296 + u < (q + 1) * 18446744073709509356) :
    ∃ R, R < 18446744073709509356 ∧ U * 4294967296 + u = q * 18446744073709509356 + R ∧
      IntKind.u64.wrap (IntKind.u64.wrap (IntKind.u64.wrap ((U : Int) * 4294967296) + (u : Int)) - IntKind.u64.wrap ((q : Int) * 18446744073709509356)) = (R : Int) := by
  rw [Nat.add_mul, Nat.one_mul] at h2
  refine ⟨U * 4294967296 + u - q * 18446744073709509356, by omega, by omega, ?_⟩
  have e1 : (U : Int) * 4294967296 = ((U * 4294967296 : Nat) : Int) := by omega
  have e2 : (q : Int) * 18446744073709509356 = ((q * 18446744073709509356 : Nat) : Int) := by omega
  rw [e1, e2]
  exact wrapSub _ _ _ _ h1 h2 (by decide)
theorem dEnd {hi lo U u1 u0 q1 q0 R R2 : Nat} (hN : hi * 18446744073709551616 * 4 + lo * 4 = (U * 4294967296 + u1) * 4294967296 + u0) (h1 : U * 4294967296 + u1 = q1 * 18446744073709509356 + R)
    (h2 : R * 4294967296 + u0 = q0 * 18446744073709509356 + R2) (h3 : R2 < 18446744073709509356) : (R2 : Int) / 4 = (((hi * 18446744073709551616 + lo) % 4611686018427377339 : Nat) : Int) := by
  obtain ⟨N, hNd⟩ : ∃ N, hi * 18446744073709551616 + lo = N := ⟨_, rfl⟩
  have e : N * 4 = (q1 * 4294967296 + q0) * 18446744073709509356 + R2 := by
    have : N * 4 = hi * 18446744073709551616 * 4 + lo * 4 := by rw [← hNd, Nat.add_mul]
    rw [this, hN, h1, Nat.add_mul, Nat.add_assoc, h2, Nat.add_mul]
    clear this hN h1 h2 hNd h3
    omega
  rw [hNd]
  clear hN h1 h2 hNd
  obtain ⟨K, hK⟩ : ∃ K, q1 * 4294967296 + q0 = K := ⟨_, rfl⟩
  rw [hK] at e
  clear hK
  have e3 : N = K * 4611686018427377339 + R2 / 4 := by omega
  have e4 : N % 4611686018427377339 = R2 / 4 := by
    rw [e3, Nat.mul_comm, Nat.mul_add_mod, Nat.mod_eq_of_lt (by omega)]
  rw [e4]
  omega

set_option maxHeartbeats 400000 in
set_option pp.deepTerms true in
set_option pp.maxSteps 1000000 in
theorem div64_pos (hi lo : Nat) (h0 : 0 < hi) (hhi : hi < 4611686018427377339) (hlo : lo < 18446744073709551616) (w : World) :
    Calls Tryz.prog 90 #[.int .u64 hi, .int .u64 lo, .int .u64 4611686018427377339] w fun e w' => (∃ q : Int, e = .returned (.tuple #[.int .u64 q, .int .u64 (((hi * 18446744073709551616 + lo) % 4611686018427377339 : Nat) : Int)])) ∧ w' = w := by
  have f0 : ((hi : Int) == 0) = false := by simp; omega
  have f1 : decide (4611686018427377339 ≤ (hi : Int)) = false := decide_eq_false (by omega)
  have hU := orHi hi lo (by omega) hlo
  obtain ⟨L, hLd⟩ : ∃ L, lo * 4 % 18446744073709551616 = L := ⟨_, rfl⟩
  have hL : IntKind.u64.wrap ((lo : Int) * 4) = (L : Int) := by rw [IntKind.wrap_u64]; omega
  have hLlt : L < 18446744073709551616 := by omega
  have hL1 : (L : Int) / 4294967296 = ((L / 4294967296 : Nat) : Int) := by omega
  have hL0 := lowHalf L hLlt
  have hu1l : L / 4294967296 < 4294967296 := by omega
  have hu0l : L % 4294967296 < 4294967296 := Nat.mod_lt _ (by decide)
  obtain ⟨U, hUd⟩ : ∃ U, hi * 4 + lo / 4611686018427387904 = U := ⟨_, rfl⟩
  rw [hUd] at hU
  have hUlt : U < 18446744073709509356 := by omega
  have hq := dq U (by omega)
  have hr := dr U (by omega)
  have hD := Dig.start U (L / 4294967296) hUlt hu1l
  have hN := dN hi lo
  rw [hLd, hUd] at hN
  obtain ⟨u1, hu1⟩ : ∃ u1, L / 4294967296 = u1 := ⟨_, rfl⟩
  obtain ⟨u0, hu0⟩ : ∃ u0, L % 4294967296 = u0 := ⟨_, rfl⟩
  rw [hu1] at hu1l; rw [hu0] at hu0l
  rw [hu1] at hL1 hD hN
  rw [hu0] at hL0 hN
  have HU := Lib.hid hU; have HL := Lib.hid hL; have HL1 := Lib.hid hL1; have HL0 := Lib.hid hL0; have HQ := Lib.hid hq; have HR := Lib.hid hr; have HDD := Lib.hid hD; have HN := Lib.hid hN
  clear hU hL hL1 hL0 hq hr hD hN hLd hUd hu1 hu0
  go_enter Tryz.func90, Tryz.ntmps90
  go_wp2_with (go_at_call 104; refine (lz _).mono ?_; rintro e w' ⟨rfl, hw⟩; rw [hw]; clear hw w')
  simp only [HU.out, HL.out, HL1.out, HL0.out, HQ.out, HR.out, yAnd]
  go_loopw [15, 16] (fun a b wr => ∃ q r : Nat, a = .int .u64 q ∧ b = .int .u64 r ∧ Dig U u1 q r ∧ wr = w) (fun a _ _ => (intOf a).toNat)
  case atStart => exact ⟨_, _, rfl, rfl, HDD.out, rfl⟩
  case round =>
    obtain ⟨q, r, rfl, rfl, hd, hw⟩ := hrel
    subst hw
    have hrl : r < 4294967296 := hd.2.1
    have hqU : q * 4294967295 + r = U := hd.1
    have hq1 : q < 4294967299 := by clear HN; omega
    by_cases ht : q ≥ 4294967296 ∨ q * 4294925036 > 4294967296 * r + u1
    · have hq0 : 1 ≤ q := by omega
      obtain ⟨q', hq'⟩ : ∃ q', q - 1 = q' := ⟨_, rfl⟩
      obtain ⟨r', hr'⟩ : ∃ r', r + 4294967295 = r' := ⟨_, rfl⟩
      have g1 : IntKind.u64.wrap ((q : Int) - 1) = (q' : Int) := by rw [wrapU _ (by omega) (by omega)]; omega
      have g2 : IntKind.u64.wrap ((r : Int) + 4294967295) = (r' : Int) := by rw [wrapU _ (by omega) (by omega)]; omega
      by_cases hs : r + 4294967295 < 4294967296
      · have hd' := hd.step hUlt hu1l ht hs
        rw [hq', hr'] at hd'
        have g3 : decide (4294967296 ≤ (r' : Int)) = false := decide_eq_false (by omega)
        by_cases t1 : q ≥ 4294967296
        · have f2 : decide (4294967296 ≤ (q : Int)) = true := decide_eq_true (by omega)
          clear hd hqU ht
          go_wp2_with fail
          go_roundw
          case rel => exact ⟨q', r', rfl, rfl, hd', trivial⟩
          case measure => simp [intOf]; omega
        · have f2 : decide (4294967296 ≤ (q : Int)) = false := decide_eq_false (by omega)
          have k1 : IntKind.u64.wrap ((q : Int) * 4294925036) = (q : Int) * 4294925036 := wrapU _ (by omega) (by omega)
          have k2 : IntKind.u64.wrap (4294967296 * (r : Int)) = 4294967296 * (r : Int) := wrapU _ (by omega) (by omega)
          have k3 : IntKind.u64.wrap (4294967296 * (r : Int) + (u1 : Int)) = 4294967296 * (r : Int) + (u1 : Int) := wrapU _ (by omega) (by omega)
          have k4 : decide (4294967296 * (r : Int) + (u1 : Int) < (q : Int) * 4294925036) = true := decide_eq_true (by omega)
          clear hd hqU ht
          go_wp2_with fail
          go_roundw
          case rel => exact ⟨q', r', rfl, rfl, hd', trivial⟩
          case measure => simp [intOf]; omega
      · have hd' := hd.stop hUlt hu1l ht hs
        rw [hq'] at hd'
        have g3 : decide (4294967296 ≤ (r' : Int)) = true := decide_eq_true (by omega)
        have hq1 : q' < 4294967296 := by omega
        have HE := Lib.hid hd'
        by_cases t1 : q ≥ 4294967296
        · have f2 : decide (4294967296 ≤ (q : Int)) = true := decide_eq_true (by omega)
          clear hd hd' hqU ht
          go_wp2_with fail
          clear HDD
          obtain ⟨R, hRl, HRe, hR⟩ := dR U u1 q' HE.out.1 HE.out.2
          have HRE := Lib.hid HRe
          clear HRe
          have hq2 := dq R (Nat.lt_trans hRl (by decide))
          have hr2 := dr R (Nat.lt_trans hRl (by decide))
          have HD2 := Lib.hid (Dig.start R u0 hRl hu0l)
          simp only [hR, hq2, hr2]
          clear hR hq2 hr2
          go_loopw [18, 16] (fun a b wr' => ∃ q r : Nat, a = .int .u64 q ∧ b = .int .u64 r ∧ Dig R u0 q r ∧ wr' = wr) (fun a _ _ => (intOf a).toNat)
          case atStart => exact ⟨_, _, rfl, rfl, HD2.out, rfl⟩
          case round =>
            clear HD2
            obtain ⟨Q, S, rfl, rfl, hd, hw⟩ := hrel
            subst hw
            have hrl : S < 4294967296 := hd.2.1
            have hqU : Q * 4294967295 + S = R := hd.1
            have hq2 : Q < 4294967299 := by clear HN; omega
            by_cases ht : Q ≥ 4294967296 ∨ Q * 4294925036 > 4294967296 * S + u0
            · have hq0 : 1 ≤ Q := by omega
              obtain ⟨Q', hQ'⟩ : ∃ q', Q - 1 = q' := ⟨_, rfl⟩
              obtain ⟨S', hS'⟩ : ∃ r', S + 4294967295 = r' := ⟨_, rfl⟩
              have g1 : IntKind.u64.wrap ((Q : Int) - 1) = (Q' : Int) := by rw [wrapU _ (by omega) (by omega)]; omega
              have g2 : IntKind.u64.wrap ((S : Int) + 4294967295) = (S' : Int) := by rw [wrapU _ (by omega) (by omega)]; omega
              by_cases hs : S + 4294967295 < 4294967296
              · have hd' := hd.step hRl hu0l ht hs
                rw [hQ', hS'] at hd'
                have g3 : decide (4294967296 ≤ (S' : Int)) = false := decide_eq_false (by omega)
                by_cases t1 : Q ≥ 4294967296
                · have f2 : decide (4294967296 ≤ (Q : Int)) = true := decide_eq_true (by omega)
                  clear hd hqU ht
                  go_wp2_with fail
                  go_roundw
                  case rel => exact ⟨Q', S', rfl, rfl, hd', trivial⟩
                  case measure => simp [intOf]; omega
                · have f2 : decide (4294967296 ≤ (Q : Int)) = false := decide_eq_false (by omega)
                  have k1 : IntKind.u64.wrap ((Q : Int) * 4294925036) = (Q : Int) * 4294925036 := wrapU _ (by omega) (by omega)
                  have k2 : IntKind.u64.wrap (4294967296 * (S : Int)) = 4294967296 * (S : Int) := wrapU _ (by omega) (by omega)
                  have k3 : IntKind.u64.wrap (4294967296 * (S : Int) + (u0 : Int)) = 4294967296 * (S : Int) + (u0 : Int) := wrapU _ (by omega) (by omega)
                  have k4 : decide (4294967296 * (S : Int) + (u0 : Int) < (Q : Int) * 4294925036) = true := decide_eq_true (by omega)
                  clear hd hqU ht
                  go_wp2_with fail
                  go_roundw
                  case rel => exact ⟨Q', S', rfl, rfl, hd', trivial⟩
                  case measure => simp [intOf]; omega
              · have hd' := hd.stop hRl hu0l ht hs
                rw [hQ'] at hd'
                have g3 : decide (4294967296 ≤ (S' : Int)) = true := decide_eq_true (by omega)
                obtain ⟨R2, hR2l, hR2e, hR2⟩ := dR R u0 Q' hd'.1 hd'.2
                have HE2 := Lib.hid (dEnd HN.out HRE.out hR2e hR2l)
                have HR2 := Lib.hid hR2
                clear hR2 hR2e hR2l hd'
                by_cases t1 : Q ≥ 4294967296
                · have f2 : decide (4294967296 ≤ (Q : Int)) = true := decide_eq_true (by omega)
                  clear hd hqU ht
                  go_wp2_with fail
                  simp only [HR2.out, HE2.out]
                  go_ret2
                  exact ⟨⟨_, rfl⟩, rfl⟩
                · have f2 : decide (4294967296 ≤ (Q : Int)) = false := decide_eq_false (by omega)
                  have k1 : IntKind.u64.wrap ((Q : Int) * 4294925036) = (Q : Int) * 4294925036 := wrapU _ (by omega) (by omega)
                  have k2 : IntKind.u64.wrap (4294967296 * (S : Int)) = 4294967296 * (S : Int) := wrapU _ (by omega) (by omega)
                  have k3 : IntKind.u64.wrap (4294967296 * (S : Int) + (u0 : Int)) = 4294967296 * (S : Int) + (u0 : Int) := wrapU _ (by omega) (by omega)
                  have k4 : decide (4294967296 * (S : Int) + (u0 : Int) < (Q : Int) * 4294925036) = true := decide_eq_true (by omega)
                  clear hd hqU ht
                  go_wp2_with fail
                  simp only [HR2.out, HE2.out]
                  go_ret2
                  exact ⟨⟨_, rfl⟩, rfl⟩
            · have hn1 : ¬ Q ≥ 4294967296 := fun h => ht (.inl h)
              have hn2 : ¬ Q * 4294925036 > 4294967296 * S + u0 := fun h => ht (.inr h)
              obtain ⟨R2, hR2l, hR2e, hR2⟩ := dR R u0 Q (hd.test hn2) hd.2.2
              have HE2 := Lib.hid (dEnd HN.out HRE.out hR2e hR2l)
              have HR2 := Lib.hid hR2
              clear hR2 hR2e hR2l
              have f2 : decide (4294967296 ≤ (Q : Int)) = false := decide_eq_false (by omega)
              have k1 : IntKind.u64.wrap ((Q : Int) * 4294925036) = (Q : Int) * 4294925036 := wrapU _ (by omega) (by omega)
              have k2 : IntKind.u64.wrap (4294967296 * (S : Int)) = 4294967296 * (S : Int) := wrapU _ (by omega) (by omega)
              have k3 : IntKind.u64.wrap (4294967296 * (S : Int) + (u0 : Int)) = 4294967296 * (S : Int) + (u0 : Int) := wrapU _ (by omega) (by omega)
              have k4 : decide (4294967296 * (S : Int) + (u0 : Int) < (Q : Int) * 4294925036) = false := decide_eq_false (by omega)
              clear hd hqU ht hn2
              go_wp2_with fail
              simp only [HR2.out, HE2.out]
              go_ret2
              exact ⟨⟨_, rfl⟩, rfl⟩
        · have f2 : decide (4294967296 ≤ (q : Int)) = false := decide_eq_false (by omega)
          have k1 : IntKind.u64.wrap ((q : Int) * 4294925036) = (q : Int) * 4294925036 := wrapU _ (by omega) (by omega)
          have k2 : IntKind.u64.wrap (4294967296 * (r : Int)) = 4294967296 * (r : Int) := wrapU _ (by omega) (by omega)
          have k3 : IntKind.u64.wrap (4294967296 * (r : Int) + (u1 : Int)) = 4294967296 * (r : Int) + (u1 : Int) := wrapU _ (by omega) (by omega)
          have k4 : decide (4294967296 * (r : Int) + (u1 : Int) < (q : Int) * 4294925036) = true := decide_eq_true (by omega)
          clear hd hd' hqU ht
          go_wp2_with fail
          clear HDD
          obtain ⟨R, hRl, HRe, hR⟩ := dR U u1 q' HE.out.1 HE.out.2
          have HRE := Lib.hid HRe
          clear HRe
          have hq2 := dq R (Nat.lt_trans hRl (by decide))
          have hr2 := dr R (Nat.lt_trans hRl (by decide))
          have HD2 := Lib.hid (Dig.start R u0 hRl hu0l)
          simp only [hR, hq2, hr2]
          clear hR hq2 hr2
          go_loopw [18, 16] (fun a b wr' => ∃ q r : Nat, a = .int .u64 q ∧ b = .int .u64 r ∧ Dig R u0 q r ∧ wr' = wr) (fun a _ _ => (intOf a).toNat)
          case atStart => exact ⟨_, _, rfl, rfl, HD2.out, rfl⟩
          case round =>
            clear HD2
            obtain ⟨Q, S, rfl, rfl, hd, hw⟩ := hrel
            subst hw
            have hrl : S < 4294967296 := hd.2.1
            have hqU : Q * 4294967295 + S = R := hd.1
            have hq2 : Q < 4294967299 := by clear HN; omega
            by_cases ht : Q ≥ 4294967296 ∨ Q * 4294925036 > 4294967296 * S + u0
            · have hq0 : 1 ≤ Q := by omega
              obtain ⟨Q', hQ'⟩ : ∃ q', Q - 1 = q' := ⟨_, rfl⟩
              obtain ⟨S', hS'⟩ : ∃ r', S + 4294967295 = r' := ⟨_, rfl⟩
              have g1 : IntKind.u64.wrap ((Q : Int) - 1) = (Q' : Int) := by rw [wrapU _ (by omega) (by omega)]; omega
              have g2 : IntKind.u64.wrap ((S : Int) + 4294967295) = (S' : Int) := by rw [wrapU _ (by omega) (by omega)]; omega
              by_cases hs : S + 4294967295 < 4294967296
              · have hd' := hd.step hRl hu0l ht hs
                rw [hQ', hS'] at hd'
                have g3 : decide (4294967296 ≤ (S' : Int)) = false := decide_eq_false (by omega)
                by_cases t1 : Q ≥ 4294967296
                · have f2 : decide (4294967296 ≤ (Q : Int)) = true := decide_eq_true (by omega)
                  clear hd hqU ht
                  go_wp2_with fail
                  go_roundw
                  case rel => exact ⟨Q', S', rfl, rfl, hd', trivial⟩
                  case measure => simp [intOf]; omega
                · have f2 : decide (4294967296 ≤ (Q : Int)) = false := decide_eq_false (by omega)
                  have k1 : IntKind.u64.wrap ((Q : Int) * 4294925036) = (Q : Int) * 4294925036 := wrapU _ (by omega) (by omega)
                  have k2 : IntKind.u64.wrap (4294967296 * (S : Int)) = 4294967296 * (S : Int) := wrapU _ (by omega) (by omega)
                  have k3 : IntKind.u64.wrap (4294967296 * (S : Int) + (u0 : Int)) = 4294967296 * (S : Int) + (u0 : Int) := wrapU _ (by omega) (by omega)
                  have k4 : decide (4294967296 * (S : Int) + (u0 : Int) < (Q : Int) * 4294925036) = true := decide_eq_true (by omega)
                  clear hd hqU ht
                  go_wp2_with fail
                  go_roundw
                  case rel => exact ⟨Q', S', rfl, rfl, hd', trivial⟩
                  case measure => simp [intOf]; omega
              · have hd' := hd.stop hRl hu0l ht hs
                rw [hQ'] at hd'
                have g3 : decide (4294967296 ≤ (S' : Int)) = true := decide_eq_true (by omega)
                obtain ⟨R2, hR2l, hR2e, hR2⟩ := dR R u0 Q' hd'.1 hd'.2
                have HE2 := Lib.hid (dEnd HN.out HRE.out hR2e hR2l)
                have HR2 := Lib.hid hR2
                clear hR2 hR2e hR2l hd'
                by_cases t1 : Q ≥ 4294967296
                · have f2 : decide (4294967296 ≤ (Q : Int)) = true := decide_eq_true (by omega)
                  clear hd hqU ht
                  go_wp2_with fail
                  simp only [HR2.out, HE2.out]
                  go_ret2
                  exact ⟨⟨_, rfl⟩, rfl⟩
                · have f2 : decide (4294967296 ≤ (Q : Int)) = false := decide_eq_false (by omega)
                  have k1 : IntKind.u64.wrap ((Q : Int) * 4294925036) = (Q : Int) * 4294925036 := wrapU _ (by omega) (by omega)
                  have k2 : IntKind.u64.wrap (4294967296 * (S : Int)) = 4294967296 * (S : Int) := wrapU _ (by omega) (by omega)
                  have k3 : IntKind.u64.wrap (4294967296 * (S : Int) + (u0 : Int)) = 4294967296 * (S : Int) + (u0 : Int) := wrapU _ (by omega) (by omega)
                  have k4 : decide (4294967296 * (S : Int) + (u0 : Int) < (Q : Int) * 4294925036) = true := decide_eq_true (by omega)
                  clear hd hqU ht
                  go_wp2_with fail
                  simp only [HR2.out, HE2.out]
                  go_ret2
                  exact ⟨⟨_, rfl⟩, rfl⟩
            · have hn1 : ¬ Q ≥ 4294967296 := fun h => ht (.inl h)
              have hn2 : ¬ Q * 4294925036 > 4294967296 * S + u0 := fun h => ht (.inr h)
              obtain ⟨R2, hR2l, hR2e, hR2⟩ := dR R u0 Q (hd.test hn2) hd.2.2
              have HE2 := Lib.hid (dEnd HN.out HRE.out hR2e hR2l)
              have HR2 := Lib.hid hR2
              clear hR2 hR2e hR2l
              have f2 : decide (4294967296 ≤ (Q : Int)) = false := decide_eq_false (by omega)
              have k1 : IntKind.u64.wrap ((Q : Int) * 4294925036) = (Q : Int) * 4294925036 := wrapU _ (by omega) (by omega)
              have k2 : IntKind.u64.wrap (4294967296 * (S : Int)) = 4294967296 * (S : Int) := wrapU _ (by omega) (by omega)
              have k3 : IntKind.u64.wrap (4294967296 * (S : Int) + (u0 : Int)) = 4294967296 * (S : Int) + (u0 : Int) := wrapU _ (by omega) (by omega)
              have k4 : decide (4294967296 * (S : Int) + (u0 : Int) < (Q : Int) * 4294925036) = false := decide_eq_false (by omega)
              clear hd hqU ht hn2
              go_wp2_with fail
              simp only [HR2.out, HE2.out]
              go_ret2
              exact ⟨⟨_, rfl⟩, rfl⟩
    · have hn1 : ¬ q ≥ 4294967296 := fun h => ht (.inl h)
      have hn2 : ¬ q * 4294925036 > 4294967296 * r + u1 := fun h => ht (.inr h)
      have HE := Lib.hid (And.intro (hd.test hn2) hd.2.2)
      have f2 : decide (4294967296 ≤ (q : Int)) = false := decide_eq_false (by omega)
      have k1 : IntKind.u64.wrap ((q : Int) * 4294925036) = (q : Int) * 4294925036 := wrapU _ (by omega) (by omega)
      have k2 : IntKind.u64.wrap (4294967296 * (r : Int)) = 4294967296 * (r : Int) := wrapU _ (by omega) (by omega)
      have k3 : IntKind.u64.wrap (4294967296 * (r : Int) + (u1 : Int)) = 4294967296 * (r : Int) + (u1 : Int) := wrapU _ (by omega) (by omega)
      have k4 : decide (4294967296 * (r : Int) + (u1 : Int) < (q : Int) * 4294925036) = false := decide_eq_false (by omega)
      clear hd hqU ht hn2
      go_wp2_with fail
      clear HDD
      obtain ⟨R, hRl, HRe, hR⟩ := dR U u1 q HE.out.1 HE.out.2
      have HRE := Lib.hid HRe
      clear HRe
      have hq2 := dq R (Nat.lt_trans hRl (by decide))
      have hr2 := dr R (Nat.lt_trans hRl (by decide))
      have HD2 := Lib.hid (Dig.start R u0 hRl hu0l)
      simp only [hR, hq2, hr2]
      clear hR hq2 hr2
      go_loopw [18, 16] (fun a b wr' => ∃ q r : Nat, a = .int .u64 q ∧ b = .int .u64 r ∧ Dig R u0 q r ∧ wr' = wr) (fun a _ _ => (intOf a).toNat)
      case atStart => exact ⟨_, _, rfl, rfl, HD2.out, rfl⟩
      case round =>
        clear HD2
        obtain ⟨Q, S, rfl, rfl, hd, hw⟩ := hrel
        subst hw
        have hrl : S < 4294967296 := hd.2.1
        have hqU : Q * 4294967295 + S = R := hd.1
        have hq2 : Q < 4294967299 := by clear HN; omega
        by_cases ht : Q ≥ 4294967296 ∨ Q * 4294925036 > 4294967296 * S + u0
        · have hq0 : 1 ≤ Q := by omega
          obtain ⟨Q', hQ'⟩ : ∃ q', Q - 1 = q' := ⟨_, rfl⟩
          obtain ⟨S', hS'⟩ : ∃ r', S + 4294967295 = r' := ⟨_, rfl⟩
          have g1 : IntKind.u64.wrap ((Q : Int) - 1) = (Q' : Int) := by rw [wrapU _ (by omega) (by omega)]; omega
          have g2 : IntKind.u64.wrap ((S : Int) + 4294967295) = (S' : Int) := by rw [wrapU _ (by omega) (by omega)]; omega
          by_cases hs : S + 4294967295 < 4294967296
          · have hd' := hd.step hRl hu0l ht hs
            rw [hQ', hS'] at hd'
            have g3 : decide (4294967296 ≤ (S' : Int)) = false := decide_eq_false (by omega)
            by_cases t1 : Q ≥ 4294967296
            · have f2 : decide (4294967296 ≤ (Q : Int)) = true := decide_eq_true (by omega)
              clear hd hqU ht
              go_wp2_with fail
              go_roundw
              case rel => exact ⟨Q', S', rfl, rfl, hd', trivial⟩
              case measure => simp [intOf]; omega
            · have f2 : decide (4294967296 ≤ (Q : Int)) = false := decide_eq_false (by omega)
              have k1 : IntKind.u64.wrap ((Q : Int) * 4294925036) = (Q : Int) * 4294925036 := wrapU _ (by omega) (by omega)
              have k2 : IntKind.u64.wrap (4294967296 * (S : Int)) = 4294967296 * (S : Int) := wrapU _ (by omega) (by omega)
              have k3 : IntKind.u64.wrap (4294967296 * (S : Int) + (u0 : Int)) = 4294967296 * (S : Int) + (u0 : Int) := wrapU _ (by omega) (by omega)
              have k4 : decide (4294967296 * (S : Int) + (u0 : Int) < (Q : Int) * 4294925036) = true := decide_eq_true (by omega)
              clear hd hqU ht
              go_wp2_with fail
              go_roundw
              case rel => exact ⟨Q', S', rfl, rfl, hd', trivial⟩
              case measure => simp [intOf]; omega
          · have hd' := hd.stop hRl hu0l ht hs
            rw [hQ'] at hd'
            have g3 : decide (4294967296 ≤ (S' : Int)) = true := decide_eq_true (by omega)
            obtain ⟨R2, hR2l, hR2e, hR2⟩ := dR R u0 Q' hd'.1 hd'.2
            have HE2 := Lib.hid (dEnd HN.out HRE.out hR2e hR2l)
            have HR2 := Lib.hid hR2
            clear hR2 hR2e hR2l hd'
            by_cases t1 : Q ≥ 4294967296
            · have f2 : decide (4294967296 ≤ (Q : Int)) = true := decide_eq_true (by omega)
              clear hd hqU ht
              go_wp2_with fail
              simp only [HR2.out, HE2.out]
              go_ret2
              exact ⟨⟨_, rfl⟩, rfl⟩
            · have f2 : decide (4294967296 ≤ (Q : Int)) = false := decide_eq_false (by omega)
              have k1 : IntKind.u64.wrap ((Q : Int) * 4294925036) = (Q : Int) * 4294925036 := wrapU _ (by omega) (by omega)
              have k2 : IntKind.u64.wrap (4294967296 * (S : Int)) = 4294967296 * (S : Int) := wrapU _ (by omega) (by omega)
              have k3 : IntKind.u64.wrap (4294967296 * (S : Int) + (u0 : Int)) = 4294967296 * (S : Int) + (u0 : Int) := wrapU _ (by omega) (by omega)
              have k4 : decide (4294967296 * (S : Int) + (u0 : Int) < (Q : Int) * 4294925036) = true := decide_eq_true (by omega)
              clear hd hqU ht
              go_wp2_with fail
              simp only [HR2.out, HE2.out]
              go_ret2
              exact ⟨⟨_, rfl⟩, rfl⟩
        · have hn1 : ¬ Q ≥ 4294967296 := fun h => ht (.inl h)
          have hn2 : ¬ Q * 4294925036 > 4294967296 * S + u0 := fun h => ht (.inr h)
          obtain ⟨R2, hR2l, hR2e, hR2⟩ := dR R u0 Q (hd.test hn2) hd.2.2
          have HE2 := Lib.hid (dEnd HN.out HRE.out hR2e hR2l)
          have HR2 := Lib.hid hR2
          clear hR2 hR2e hR2l
          have f2 : decide (4294967296 ≤ (Q : Int)) = false := decide_eq_false (by omega)
          have k1 : IntKind.u64.wrap ((Q : Int) * 4294925036) = (Q : Int) * 4294925036 := wrapU _ (by omega) (by omega)
          have k2 : IntKind.u64.wrap (4294967296 * (S : Int)) = 4294967296 * (S : Int) := wrapU _ (by omega) (by omega)
          have k3 : IntKind.u64.wrap (4294967296 * (S : Int) + (u0 : Int)) = 4294967296 * (S : Int) + (u0 : Int) := wrapU _ (by omega) (by omega)
          have k4 : decide (4294967296 * (S : Int) + (u0 : Int) < (Q : Int) * 4294925036) = false := decide_eq_false (by omega)
          clear hd hqU ht hn2
          go_wp2_with fail
          simp only [HR2.out, HE2.out]
          go_ret2
          exact ⟨⟨_, rfl⟩, rfl⟩
end Go.Proofs.YteigldfdaciopaaGreatDoor.P

namespace Go.Proofs.YteigldfdaciopaaGreatDoor.R
open Go.RowKit
set_option linter.unusedVariables false
set_option linter.unusedSimpArgs false

theorem wrapU (a : Int) (h0 : 0 ≤ a) (h : a < 18446744073709551616) : IntKind.u64.wrap a = a := by rw [IntKind.wrap_u64]; omega
theorem yAnd : bits .and .u64 18446744073709509344 4294967295 = 4294925024 := by
  have h := bits_and_u64_nat 18446744073709509344 4294967295 (by omega) (by omega)
  have e : (18446744073709509344 : Nat) &&& 4294967295 = 4294925024 := by decide +kernel
  rw [e] at h; exact h
theorem orHi (hi lo : Nat) (hh : hi < 4611686018427387904) (hl : lo < 18446744073709551616) : bits .or .u64 ((hi : Int) * 4) ((lo : Int) / 4611686018427387904) = ((hi * 4 + lo / 4611686018427387904 : Nat) : Int) := by
  have e1 : (hi : Int) * 4 = ((hi * 4 : Nat) : Int) := by omega
  have e2 : (lo : Int) / 4611686018427387904 = ((lo / 4611686018427387904 : Nat) : Int) := by omega
  rw [e1, e2, bits_or_u64_nat _ _ (by omega) (by omega)]
  congr 1
  have := Nat.two_pow_add_eq_or_of_lt (i := 2) (b := lo / 4611686018427387904) (by omega) hi
  rw [Nat.mul_comm hi 4]; exact this.symm
theorem lowHalf (a : Nat) (h : a < 18446744073709551616) : bits .and .u64 (a : Int) 4294967295 = ((a % 4294967296 : Nat) : Int) := by
  have h2 := bits_and_u64_nat a 4294967295 h (by omega)
  have e : a &&& 4294967295 = a % 4294967296 := Nat.and_two_pow_sub_one_eq_mod a 32
  rw [e] at h2; exact h2

set_option maxHeartbeats 400000 in
theorem div64_zero (lo : Nat) (hlo : lo < 18446744073709551616) (w : World) :
    Calls Tryz.prog 90 #[.int .u64 0, .int .u64 lo, .int .u64 4611686018427377336] w fun e w' => (∃ q : Int, e = .returned (.tuple #[.int .u64 q, .int .u64 ((lo % 4611686018427377336 : Nat) : Int)])) ∧ ∃ k, w' = w.drewN k := by
  go_enter Tryz.func90, Tryz.ntmps90
  go_wp2_with fail
  go_quiet (fail)
  go_wp2_with fail
  have e : ((lo : Int)).tmod 4611686018427377336 = ((lo % 4611686018427377336 : Nat) : Int) := by rw [Int.tmod_eq_emod_of_nonneg (by omega)]; omega
  rw [← e]
  go_ret2
  exact ⟨⟨_, rfl⟩, _, rfl⟩

theorem lz (w : World) : Calls Tryz.prog 104 #[.int .u64 4611686018427377336] w fun e w' => e = .returned (.int .i64 2) ∧ w' = w := by
  have h := Tryz.bits_LeadingZeros64 4611686018427377336 w (by omega) (by omega)
  have e : (64 - (Lib.bitLen (4611686018427377336 : Int).toNat : Int)) = 2 := by decide +kernel
  rw [e] at h
  exact h

/-- What a round of the search for a digit keeps: q is not too small, r is what is left. -/
def Dig (U u q r : Nat) : Prop := q * 4294967295 + r = U ∧ r < 4294967296 ∧ U * 4294967296 + u < (q + 1) * 18446744073709509344
theorem Dig.start (U u : Nat) (hU : U < 18446744073709509344) (hu : u < 4294967296) : Dig U u (U / 4294967295) (U % 4294967295) := by
  unfold Dig; omega
theorem Dig.test {U u q r : Nat} (h : Dig U u q r) : ¬ q * 4294925024 > 4294967296 * r + u → q * 18446744073709509344 ≤ U * 4294967296 + u := by
  intro h2
  obtain ⟨h3, h4, h5⟩ := h
  clear h5
  omega
theorem Dig.less {U u q r : Nat} (h : Dig U u q r) (hU : U < 18446744073709509344) (hu : u < 4294967296) (ht : q ≥ 4294967296 ∨ q * 4294925024 > 4294967296 * r + u) : 1 ≤ q ∧ U * 4294967296 + u < q * 18446744073709509344 := by
  obtain ⟨h3, h4, h5⟩ := h
  clear h5
  rcases ht with ht | ht
  · clear h3 h4; omega
  · clear hU; omega
theorem Dig.step {U u q r : Nat} (h : Dig U u q r) (hU : U < 18446744073709509344) (hu : u < 4294967296) (ht : q ≥ 4294967296 ∨ q * 4294925024 > 4294967296 * r + u) (hr : r + 4294967295 < 4294967296) : Dig U u (q - 1) (r + 4294967295) := by
  obtain ⟨a, b⟩ := h.less hU hu ht
  obtain ⟨h3, h4, h5⟩ := h
  clear ht h5 hU hu
  obtain ⟨p, rfl⟩ : ∃ p, q = p + 1 := ⟨q - 1, by omega⟩
  refine ⟨?_, hr, ?_⟩
  · rw [Nat.add_sub_cancel]; rw [Nat.add_mul, Nat.one_mul] at h3; rw [← h3, Nat.add_assoc, Nat.add_comm r]
  · rw [Nat.add_sub_cancel]; exact b
theorem Dig.stop {U u q r : Nat} (h : Dig U u q r) (hU : U < 18446744073709509344) (hu : u < 4294967296) (ht : q ≥ 4294967296 ∨ q * 4294925024 > 4294967296 * r + u) (hr : ¬ r + 4294967295 < 4294967296) : (q - 1) * 18446744073709509344 ≤ U * 4294967296 + u ∧ U * 4294967296 + u < (q - 1 + 1) * 18446744073709509344 := by
  obtain ⟨a, b⟩ := h.less hU hu ht
  obtain ⟨h3, h4, h5⟩ := h
  clear ht h5
  obtain ⟨p, rfl⟩ : ∃ p, q = p + 1 := ⟨q - 1, by omega⟩
  rw [Nat.add_sub_cancel]
  refine ⟨?_, b⟩
  clear b a
  omega
theorem dq (U : Nat) (h : U < 18446744073709551616) : IntKind.u64.wrap ((U : Int).tdiv 4294967295) = ((U / 4294967295 : Nat) : Int) := by
  rw [Int.tdiv_eq_ediv_of_nonneg (Int.natCast_nonneg U), show (U : Int) / 4294967295 = ((U / 4294967295 : Nat) : Int) by omega]
  have : U / 4294967295 ≤ U := Nat.div_le_self _ _
  exact wrapU _ (Int.natCast_nonneg _) (by omega)
theorem dr (U : Nat) (h : U < 18446744073709551616) : IntKind.u64.wrap ((U : Int) - IntKind.u64.wrap (((U / 4294967295 : Nat) : Int) * 4294967295)) = ((U % 4294967295 : Nat) : Int) := by
  have h1 : U / 4294967295 * 4294967295 + U % 4294967295 = U := Nat.div_add_mod' U 4294967295
  have h2 : U % 4294967295 < 4294967295 := Nat.mod_lt _ (by decide)
  generalize U / 4294967295 = q at *
  generalize U % 4294967295 = r at *
  rw [wrapU ((q : Int) * 4294967295) (by omega) (by omega), wrapU _ (by omega) (by omega)]; omega
theorem dN (hi lo : Nat) : hi * 18446744073709551616 * 4 + lo * 4 = ((hi * 4 + lo / 4611686018427387904) * 4294967296 + lo * 4 % 18446744073709551616 / 4294967296) * 4294967296 + lo * 4 % 18446744073709551616 % 4294967296 := by
  have h1 : lo * 4 / 18446744073709551616 = lo / 4611686018427387904 := by omega
  have h2 := Nat.div_add_mod (lo * 4) 18446744073709551616
  rw [h1] at h2
  generalize lo * 4 % 18446744073709551616 = L at *
  have h3 := Nat.div_add_mod L 4294967296
  generalize lo / 4611686018427387904 = t at *
  generalize L / 4294967296 = a at *
  generalize L % 4294967296 = b at *
  omega

theorem wrapSub (X Z u Y : Nat) (h1 : Z ≤ X + u) (h2 : X + u < Z + Y) (hY : Y ≤ 18446744073709551616) : IntKind.u64.wrap (IntKind.u64.wrap (IntKind.u64.wrap (X : Int) + (u : Int)) - IntKind.u64.wrap (Z : Int)) = ((X + u - Z : Nat) : Int) := by
  simp only [IntKind.wrap_u64]; omega
theorem dR (U u q : Nat) (h1 : q * 18446744073709509344 ≤ U * 4294967296 + u) (h2 : U * 4294967296 + u < (q + 1) * 18446744073709509344) :
    ∃ R, R < 18446744073709509344 ∧ U * 4294967296 + u = q * 18446744073709509344 + R ∧
      IntKind.u64.wrap (IntKind.u64.wrap (IntKind.u64.wrap ((U : Int) * 4294967296) + (u : Int)) - IntKind.u64.wrap ((q : Int) * 18446744073709509344)) = (R : Int) := by
  rw [Nat.add_mul, Nat.one_mul] at h2
  refine ⟨U * 4294967296 + u - q * 18446744073709509344, by omega, by omega, ?_⟩
  have e1 : (U : Int) * 4294967296 = ((U * 4294967296 : Nat) : Int) := by omega
  have e2 : (q : Int) * 18446744073709509344 = ((q * 18446744073709509344 : Nat) : Int) := by omega
  rw [e1, e2]
  exact wrapSub _ _ _ _ h1 h2 (by decide)
theorem dEnd {hi lo U u1 u0 q1 q0 R R2 : Nat} (hN : hi * 18446744073709551616 * 4 + lo * 4 = (U * 4294967296 + u1) * 4294967296 + u0) (h1 : U * 4294967296 + u1 = q1 * 18446744073709509344 + R)
    (h2 : R * 4294967296 + u0 = q0 * 18446744073709509344 + R2) (h3 : R2 < 18446744073709509344) : (R2 : Int) / 4 = (((hi * 18446744073709551616 + lo) % 4611686018427377336 : Nat) : Int) := by
  obtain ⟨N, hNd⟩ : ∃ N, hi * 18446744073709551616 + lo = N := ⟨_, rfl⟩
  have e : N * 4 = (q1 * 4294967296 + q0) * 18446744073709509344 + R2 := by
    have : N * 4 = hi * 18446744073709551616 * 4 + lo * 4 := by rw [← hNd, Nat.add_mul]
    rw [this, hN, h1, Nat.add_mul, Nat.add_assoc, h2, Nat.add_mul]
    clear this hN h1 h2 hNd h3
    omega
  rw [hNd]
  clear hN h1 h2 hNd
  obtain ⟨K, hK⟩ : ∃ K, q1 * 4294967296 + q0 = K := ⟨_, rfl⟩
  rw [hK] at e
  clear hK
  have e3 : N = K * 4611686018427377336 + R2 / 4 := by omega
  have e4 : N % 4611686018427377336 = R2 / 4 := by
    rw [e3, Nat.mul_comm, Nat.mul_add_mod, Nat.mod_eq_of_lt (by omega)]
  rw [e4]
  omega

set_option maxHeartbeats 400000 in
set_option pp.deepTerms true in
set_option pp.maxSteps 1000000 in
theorem div64_pos (hi lo : Nat) (h0 : 0 < hi) (hhi : hi < 4611686018427377336) (hlo : lo < 18446744073709551616) (w : World) :
    Calls Tryz.prog 90 #[.int .u64 hi, .int .u64 lo, .int .u64 4611686018427377336] w fun e w' => (∃ q : Int, e = .returned (.tuple #[.int .u64 q, .int .u64 (((hi * 18446744073709551616 + lo) % 4611686018427377336 : Nat) : Int)])) ∧ w' = w := by
  have f0 : ((hi : Int) == 0) = false := by simp; omega
  have f1 : decide (4611686018427377336 ≤ (hi : Int)) = false := decide_eq_false (by omega)
  have hU := orHi hi lo (by omega) hlo
  obtain ⟨L, hLd⟩ : ∃ L, lo * 4 % 18446744073709551616 = L := ⟨_, rfl⟩
  have hL : IntKind.u64.wrap ((lo : Int) * 4) = (L : Int) := by rw [IntKind.wrap_u64]; omega
  have hLlt : L < 18446744073709551616 := by omega
  have hL1 : (L : Int) / 4294967296 = ((L / 4294967296 : Nat) : Int) := by omega
  have hL0 := lowHalf L hLlt
  have hu1l : L / 4294967296 < 4294967296 := by omega
  have hu0l : L % 4294967296 < 4294967296 := Nat.mod_lt _ (by decide)
  obtain ⟨U, hUd⟩ : ∃ U, hi * 4 + lo / 4611686018427387904 = U := ⟨_, rfl⟩
  rw [hUd] at hU
  have hUlt : U < 18446744073709509344 := by omega
  have hq := dq U (by omega)
  have hr := dr U (by omega)
  have hD := Dig.start U (L / 4294967296) hUlt hu1l
  have hN := dN hi lo
  rw [hLd, hUd] at hN
  obtain ⟨u1, hu1⟩ : ∃ u1, L / 4294967296 = u1 := ⟨_, rfl⟩
  obtain ⟨u0, hu0⟩ : ∃ u0, L % 4294967296 = u0 := ⟨_, rfl⟩
  rw [hu1] at hu1l; rw [hu0] at hu0l
  rw [hu1] at hL1 hD hN
  rw [hu0] at hL0 hN
  have HU := Lib.hid hU; have HL := Lib.hid hL; have HL1 := Lib.hid hL1; have HL0 := Lib.hid hL0; have HQ := Lib.hid hq; have HR := Lib.hid hr; have HDD := Lib.hid hD; have HN := Lib.hid hN
  clear hU hL hL1 hL0 hq hr hD hN hLd hUd hu1 hu0
  go_enter Tryz.func90, Tryz.ntmps90
  go_wp2_with (go_at_call 104; refine (lz _).mono ?_; rintro e w' ⟨rfl, hw⟩; rw [hw]; clear hw w')
  simp only [HU.out, HL.out, HL1.out, HL0.out, HQ.out, HR.out, yAnd]
  go_loopw [15, 16] (fun a b wr => ∃ q r : Nat, a = .int .u64 q ∧ b = .int .u64 r ∧ Dig U u1 q r ∧ wr = w) (fun a _ _ => (intOf a).toNat)
  case atStart => exact ⟨_, _, rfl, rfl, HDD.out, rfl⟩
  case round =>
    obtain ⟨q, r, rfl, rfl, hd, hw⟩ := hrel
    subst hw
    have hrl : r < 4294967296 := hd.2.1
    have hqU : q * 4294967295 + r = U := hd.1
    have hq1 : q < 4294967299 := by clear HN; omega
    by_cases ht : q ≥ 4294967296 ∨ q * 4294925024 > 4294967296 * r + u1
    · have hq0 : 1 ≤ q := by omega
      obtain ⟨q', hq'⟩ : ∃ q', q - 1 = q' := ⟨_, rfl⟩
      obtain ⟨r', hr'⟩ : ∃ r', r + 4294967295 = r' := ⟨_, rfl⟩
      have g1 : IntKind.u64.wrap ((q : Int) - 1) = (q' : Int) := by rw [wrapU _ (by omega) (by omega)]; omega
      have g2 : IntKind.u64.wrap ((r : Int) + 4294967295) = (r' : Int) := by rw [wrapU _ (by omega) (by omega)]; omega
      by_cases hs : r + 4294967295 < 4294967296
      · have hd' := hd.step hUlt hu1l ht hs
        rw [hq', hr'] at hd'
        have g3 : decide (4294967296 ≤ (r' : Int)) = false := decide_eq_false (by omega)
        by_cases t1 : q ≥ 4294967296
        · have f2 : decide (4294967296 ≤ (q : Int)) = true := decide_eq_true (by omega)
          clear hd hqU ht
          go_wp2_with fail
          go_roundw
          case rel => exact ⟨q', r', rfl, rfl, hd', trivial⟩
          case measure => simp [intOf]; omega
        · have f2 : decide (4294967296 ≤ (q : Int)) = false := decide_eq_false (by omega)
          have k1 : IntKind.u64.wrap ((q : Int) * 4294925024) = (q : Int) * 4294925024 := wrapU _ (by omega) (by omega)
          have k2 : IntKind.u64.wrap (4294967296 * (r : Int)) = 4294967296 * (r : Int) := wrapU _ (by omega) (by omega)
          have k3 : IntKind.u64.wrap (4294967296 * (r : Int) + (u1 : Int)) = 4294967296 * (r : Int) + (u1 : Int) := wrapU _ (by omega) (by omega)
          have k4 : decide (4294967296 * (r : Int) + (u1 : Int) < (q : Int) * 4294925024) = true := decide_eq_true (by omega)
          clear hd hqU ht
          go_wp2_with fail
          go_roundw
          case rel => exact ⟨q', r', rfl, rfl, hd', trivial⟩
          case measure => simp [intOf]; omega
      · have hd' := hd.stop hUlt hu1l ht hs
        rw [hq'] at hd'
        have g3 : decide (4294967296 ≤ (r' : Int)) = true := decide_eq_true (by omega)
        have hq1 : q' < 4294967296 := by omega
        have HE := Lib.hid hd'
        by_cases t1 : q ≥ 4294967296
        · have f2 : decide (4294967296 ≤ (q : Int)) = true := decide_eq_true (by omega)
          clear hd hd' hqU ht
          go_wp2_with fail
          clear HDD
          obtain ⟨R, hRl, HRe, hR⟩ := dR U u1 q' HE.out.1 HE.out.2
          have HRE := Lib.hid HRe
          clear HRe
          have hq2 := dq R (Nat.lt_trans hRl (by decide))
          have hr2 := dr R (Nat.lt_trans hRl (by decide))
          have HD2 := Lib.hid (Dig.start R u0 hRl hu0l)
          simp only [hR, hq2, hr2]
          clear hR hq2 hr2
          go_loopw [18, 16] (fun a b wr' => ∃ q r : Nat, a = .int .u64 q ∧ b = .int .u64 r ∧ Dig R u0 q r ∧ wr' = wr) (fun a _ _ => (intOf a).toNat)
          case atStart => exact ⟨_, _, rfl, rfl, HD2.out, rfl⟩
          case round =>
            clear HD2
            obtain ⟨Q, S, rfl, rfl, hd, hw⟩ := hrel
            subst hw
            have hrl : S < 4294967296 := hd.2.1
            have hqU : Q * 4294967295 + S = R := hd.1
            have hq2 : Q < 4294967299 := by clear HN; omega
            by_cases ht : Q ≥ 4294967296 ∨ Q * 4294925024 > 4294967296 * S + u0
            · have hq0 : 1 ≤ Q := by omega
              obtain ⟨Q', hQ'⟩ : ∃ q', Q - 1 = q' := ⟨_, rfl⟩
              obtain ⟨S', hS'⟩ : ∃ r', S + 4294967295 = r' := ⟨_, rfl⟩
              have g1 : IntKind.u64.wrap ((Q : Int) - 1) = (Q' : Int) := by rw [wrapU _ (by omega) (by omega)]; omega
              have g2 : IntKind.u64.wrap ((S : Int) + 4294967295) = (S' : Int) := by rw [wrapU _ (by omega) (by omega)]; omega
              by_cases hs : S + 4294967295 < 4294967296
              · have hd' := hd.step hRl hu0l ht hs
                rw [hQ', hS'] at hd'
                have g3 : decide (4294967296 ≤ (S' : Int)) = false := decide_eq_false (by omega)
                by_cases t1 : Q ≥ 4294967296
                · have f2 : decide (4294967296 ≤ (Q : Int)) = true := decide_eq_true (by omega)
                  clear hd hqU ht
                  go_wp2_with fail
                  go_roundw
                  case rel => exact ⟨Q', S', rfl, rfl, hd', trivial⟩
                  case measure => simp [intOf]; omega
                · have f2 : decide (4294967296 ≤ (Q : Int)) = false := decide_eq_false (by omega)
                  have k1 : IntKind.u64.wrap ((Q : Int) * 4294925024) = (Q : Int) * 4294925024 := wrapU _ (by omega) (by omega)
                  have k2 : IntKind.u64.wrap (4294967296 * (S : Int)) = 4294967296 * (S : Int) := wrapU _ (by omega) (by omega)
                  have k3 : IntKind.u64.wrap (4294967296 * (S : Int) + (u0 : Int)) = 4294967296 * (S : Int) + (u0 : Int) := wrapU _ (by omega) (by omega)
                  have k4 : decide (4294967296 * (S : Int) + (u0 : Int) < (Q : Int) * 4294925024) = true := decide_eq_true (by omega)
                  clear hd hqU ht
                  go_wp2_with fail
                  go_roundw
                  case rel => exact ⟨Q', S', rfl, rfl, hd', trivial⟩
                  case measure => simp [intOf]; omega
              · have hd' := hd.stop hRl hu0l ht hs
                rw [hQ'] at hd'
                have g3 : decide (4294967296 ≤ (S' : Int)) = true := decide_eq_true (by omega)
                obtain ⟨R2, hR2l, hR2e, hR2⟩ := dR R u0 Q' hd'.1 hd'.2
                have HE2 := Lib.hid (dEnd HN.out HRE.out hR2e hR2l)
                have HR2 := Lib.hid hR2
                clear hR2 hR2e hR2l hd'
                by_cases t1 : Q ≥ 4294967296
                · have f2 : decide (4294967296 ≤ (Q : Int)) = true := decide_eq_true (by omega)
                  clear hd hqU ht
                  go_wp2_with fail
                  simp only [HR2.out, HE2.out]
                  go_ret2
                  exact ⟨⟨_, rfl⟩, rfl⟩
                · have f2 : decide (4294967296 ≤ (Q : Int)) = false := decide_eq_false (by omega)
                  have k1 : IntKind.u64.wrap ((Q : Int) * 4294925024) = (Q : Int) * 4294925024 := wrapU _ (by omega) (by omega)
                  have k2 : IntKind.u64.wrap (4294967296 * (S : Int)) = 4294967296 * (S : Int) := wrapU _ (by omega) (by omega)
                  have k3 : IntKind.u64.wrap (4294967296 * (S : Int) + (u0 : Int)) = 4294967296 * (S : Int) + (u0 : Int) := wrapU _ (by omega) (by omega)
                  have k4 : decide (4294967296 * (S : Int) + (u0 : Int) < (Q : Int) * 4294925024) = true := decide_eq_true (by omega)
                  clear hd hqU ht
                  go_wp2_with fail
                  simp only [HR2.out, HE2.out]
                  go_ret2
                  exact ⟨⟨_, rfl⟩, rfl⟩
            · have hn1 : ¬ Q ≥ 4294967296 := fun h => ht (.inl h)
              have hn2 : ¬ Q * 4294925024 > 4294967296 * S + u0 := fun h => ht (.inr h)
              obtain ⟨R2, hR2l, hR2e, hR2⟩ := dR R u0 Q (hd.test hn2) hd.2.2
              have HE2 := Lib.hid (dEnd HN.out HRE.out hR2e hR2l)
              have HR2 := Lib.hid hR2
              clear hR2 hR2e hR2l
              have f2 : decide (4294967296 ≤ (Q : Int)) = false := decide_eq_false (by omega)
              have k1 : IntKind.u64.wrap ((Q : Int) * 4294925024) = (Q : Int) * 4294925024 := wrapU _ (by omega) (by omega)
              have k2 : IntKind.u64.wrap (4294967296 * (S : Int)) = 4294967296 * (S : Int) := wrapU _ (by omega) (by omega)
              have k3 : IntKind.u64.wrap (4294967296 * (S : Int) + (u0 : Int)) = 4294967296 * (S : Int) + (u0 : Int) := wrapU _ (by omega) (by omega)
              have k4 : decide (4294967296 * (S : Int) + (u0 : Int) < (Q : Int) * 4294925024) = false := decide_eq_false (by omega)
              clear hd hqU ht hn2
              go_wp2_with fail
              simp only [HR2.out, HE2.out]
              go_ret2
              exact ⟨⟨_, rfl⟩, rfl⟩
        · have f2 : decide (4294967296 ≤ (q : Int)) = false := decide_eq_false (by omega)
          have k1 : IntKind.u64.wrap ((q : Int) * 4294925024) = (q : Int) * 4294925024 := wrapU _ (by omega) (by omega)
          have k2 : IntKind.u64.wrap (4294967296 * (r : Int)) = 4294967296 * (r : Int) := wrapU _ (by omega) (by omega)
          have k3 : IntKind.u64.wrap (4294967296 * (r : Int) + (u1 : Int)) = 4294967296 * (r : Int) + (u1 : Int) := wrapU _ (by omega) (by omega)
          have k4 : decide (4294967296 * (r : Int) + (u1 : Int) < (q : Int) * 4294925024) = true := decide_eq_true (by omega)
          clear hd hd' hqU ht
          go_wp2_with fail
          clear HDD
          obtain ⟨R, hRl, HRe, hR⟩ := dR U u1 q' HE.out.1 HE.out.2
          have HRE := Lib.hid HRe
          clear HRe
          have hq2 := dq R (Nat.lt_trans hRl (by decide))
          have hr2 := dr R (Nat.lt_trans hRl (by decide))
          have HD2 := Lib.hid (Dig.start R u0 hRl hu0l)
          simp only [hR, hq2, hr2]
          clear hR hq2 hr2
          go_loopw [18, 16] (fun a b wr' => ∃ q r : Nat, a = .int .u64 q ∧ b = .int .u64 r ∧ Dig R u0 q r ∧ wr' = wr) (fun a _ _ => (intOf a).toNat)
          case atStart => exact ⟨_, _, rfl, rfl, HD2.out, rfl⟩
          case round =>
            clear HD2
            obtain ⟨Q, S, rfl, rfl, hd, hw⟩ := hrel
            subst hw
            have hrl : S < 4294967296 := hd.2.1
            have hqU : Q * 4294967295 + S = R := hd.1
            have hq2 : Q < 4294967299 := by clear HN; omega
            by_cases ht : Q ≥ 4294967296 ∨ Q * 4294925024 > 4294967296 * S + u0
            · have hq0 : 1 ≤ Q := by omega
              obtain ⟨Q', hQ'⟩ : ∃ q', Q - 1 = q' := ⟨_, rfl⟩
              obtain ⟨S', hS'⟩ : ∃ r', S + 4294967295 = r' := ⟨_, rfl⟩
              have g1 : IntKind.u64.wrap ((Q : Int) - 1) = (Q' : Int) := by rw [wrapU _ (by omega) (by omega)]; omega
              have g2 : IntKind.u64.wrap ((S : Int) + 4294967295) = (S' : Int) := by rw [wrapU _ (by omega) (by omega)]; omega
              by_cases hs : S + 4294967295 < 4294967296
              · have hd' := hd.step hRl hu0l ht hs
                rw [hQ', hS'] at hd'
                have g3 : decide (4294967296 ≤ (S' : Int)) = false := decide_eq_false (by omega)
                by_cases t1 : Q ≥ 4294967296
                · have f2 : decide (4294967296 ≤ (Q : Int)) = true := decide_eq_true (by omega)
                  clear hd hqU ht
                  go_wp2_with fail
                  go_roundw
                  case rel => exact ⟨Q', S', rfl, rfl, hd', trivial⟩
                  case measure => simp [intOf]; omega
                · have f2 : decide (4294967296 ≤ (Q : Int)) = false := decide_eq_false (by omega)
                  have k1 : IntKind.u64.wrap ((Q : Int) * 4294925024) = (Q : Int) * 4294925024 := wrapU _ (by omega) (by omega)
                  have k2 : IntKind.u64.wrap (4294967296 * (S : Int)) = 4294967296 * (S : Int) := wrapU _ (by omega) (by omega)
                  have k3 : IntKind.u64.wrap (4294967296 * (S : Int) + (u0 : Int)) = 4294967296 * (S : Int) + (u0 : Int) := wrapU _ (by omega) (by omega)
                  have k4 : decide (4294967296 * (S : Int) + (u0 : Int) < (Q : Int) * 4294925024) = true := decide_eq_true (by omega)
                  clear hd hqU ht
                  go_wp2_with fail
                  go_roundw
                  case rel => exact ⟨Q', S', rfl, rfl, hd', trivial⟩
                  case measure => simp [intOf]; omega
              · have hd' := hd.stop hRl hu0l ht hs
                rw [hQ'] at hd'
                have g3 : decide (4294967296 ≤ (S' : Int)) = true := decide_eq_true (by omega)
                obtain ⟨R2, hR2l, hR2e, hR2⟩ := dR R u0 Q' hd'.1 hd'.2
                have HE2 := Lib.hid (dEnd HN.out HRE.out hR2e hR2l)
                have HR2 := Lib.hid hR2
                clear hR2 hR2e hR2l hd'
                by_cases t1 : Q ≥ 4294967296
                · have f2 : decide (4294967296 ≤ (Q : Int)) = true := decide_eq_true (by omega)
                  clear hd hqU ht
                  go_wp2_with fail
                  simp only [HR2.out, HE2.out]
                  go_ret2
                  exact ⟨⟨_, rfl⟩, rfl⟩
                · have f2 : decide (4294967296 ≤ (Q : Int)) = false := decide_eq_false (by omega)
                  have k1 : IntKind.u64.wrap ((Q : Int) * 4294925024) = (Q : Int) * 4294925024 := wrapU _ (by omega) (by omega)
                  have k2 : IntKind.u64.wrap (4294967296 * (S : Int)) = 4294967296 * (S : Int) := wrapU _ (by omega) (by omega)
                  have k3 : IntKind.u64.wrap (4294967296 * (S : Int) + (u0 : Int)) = 4294967296 * (S : Int) + (u0 : Int) := wrapU _ (by omega) (by omega)
                  have k4 : decide (4294967296 * (S : Int) + (u0 : Int) < (Q : Int) * 4294925024) = true := decide_eq_true (by omega)
                  clear hd hqU ht
                  go_wp2_with fail
                  simp only [HR2.out, HE2.out]
                  go_ret2
                  exact ⟨⟨_, rfl⟩, rfl⟩
            · have hn1 : ¬ Q ≥ 4294967296 := fun h => ht (.inl h)
              have hn2 : ¬ Q * 4294925024 > 4294967296 * S + u0 := fun h => ht (.inr h)
              obtain ⟨R2, hR2l, hR2e, hR2⟩ := dR R u0 Q (hd.test hn2) hd.2.2
              have HE2 := Lib.hid (dEnd HN.out HRE.out hR2e hR2l)
              have HR2 := Lib.hid hR2
              clear hR2 hR2e hR2l
              have f2 : decide (4294967296 ≤ (Q : Int)) = false := decide_eq_false (by omega)
              have k1 : IntKind.u64.wrap ((Q : Int) * 4294925024) = (Q : Int) * 4294925024 := wrapU _ (by omega) (by omega)
              have k2 : IntKind.u64.wrap (4294967296 * (S : Int)) = 4294967296 * (S : Int) := wrapU _ (by omega) (by omega)
              have k3 : IntKind.u64.wrap (4294967296 * (S : Int) + (u0 : Int)) = 4294967296 * (S : Int) + (u0 : Int) := wrapU _ (by omega) (by omega)
              have k4 : decide (4294967296 * (S : Int) + (u0 : Int) < (Q : Int) * 4294925024) = false := decide_eq_false (by omega)
              clear hd hqU ht hn2
              go_wp2_with fail
              simp only [HR2.out, HE2.out]
              go_ret2
              exact ⟨⟨_, rfl⟩, rfl⟩
    · have hn1 : ¬ q ≥ 4294967296 := fun h => ht (.inl h)
      have hn2 : ¬ q * 4294925024 > 4294967296 * r + u1 := fun h => ht (.inr h)
      have HE := Lib.hid (And.intro (hd.test hn2) hd.2.2)
      have f2 : decide (4294967296 ≤ (q : Int)) = false := decide_eq_false (by omega)
      have k1 : IntKind.u64.wrap ((q : Int) * 4294925024) = (q : Int) * 4294925024 := wrapU _ (by omega) (by omega)
      have k2 : IntKind.u64.wrap (4294967296 * (r : Int)) = 4294967296 * (r : Int) := wrapU _ (by omega) (by omega)
      have k3 : IntKind.u64.wrap (4294967296 * (r : Int) + (u1 : Int)) = 4294967296 * (r : Int) + (u1 : Int) := wrapU _ (by omega) (by omega)
      have k4 : decide (4294967296 * (r : Int) + (u1 : Int) < (q : Int) * 4294925024) = false := decide_eq_false (by omega)
      clear hd hqU ht hn2
      go_wp2_with fail
      clear HDD
      obtain ⟨R, hRl, HRe, hR⟩ := dR U u1 q HE.out.1 HE.out.2
      have HRE := Lib.hid HRe
      clear HRe
      have hq2 := dq R (Nat.lt_trans hRl (by decide))
      have hr2 := dr R (Nat.lt_trans hRl (by decide))
      have HD2 := Lib.hid (Dig.start R u0 hRl hu0l)
      simp only [hR, hq2, hr2]
      clear hR hq2 hr2
      go_loopw [18, 16] (fun a b wr' => ∃ q r : Nat, a = .int .u64 q ∧ b = .int .u64 r ∧ Dig R u0 q r ∧ wr' = wr) (fun a _ _ => (intOf a).toNat)
      case atStart => exact ⟨_, _, rfl, rfl, HD2.out, rfl⟩
      case round =>
        clear HD2
        obtain ⟨Q, S, rfl, rfl, hd, hw⟩ := hrel
        subst hw
        have hrl : S < 4294967296 := hd.2.1
        have hqU : Q * 4294967295 + S = R := hd.1
        have hq2 : Q < 4294967299 := by clear HN; omega
        by_cases ht : Q ≥ 4294967296 ∨ Q * 4294925024 > 4294967296 * S + u0
        · have hq0 : 1 ≤ Q := by omega
          obtain ⟨Q', hQ'⟩ : ∃ q', Q - 1 = q' := ⟨_, rfl⟩
          obtain ⟨S', hS'⟩ : ∃ r', S + 4294967295 = r' := ⟨_, rfl⟩
          have g1 : IntKind.u64.wrap ((Q : Int) - 1) = (Q' : Int) := by rw [wrapU _ (by omega) (by omega)]; omega
          have g2 : IntKind.u64.wrap ((S : Int) + 4294967295) = (S' : Int) := by rw [wrapU _ (by omega) (by omega)]; omega
          by_cases hs : S + 4294967295 < 4294967296
          · have hd' := hd.step hRl hu0l ht hs
            rw [hQ', hS'] at hd'
            have g3 : decide (4294967296 ≤ (S' : Int)) = false := decide_eq_false (by omega)
            by_cases t1 : Q ≥ 4294967296
            · have f2 : decide (4294967296 ≤ (Q : Int)) = true := decide_eq_true (by omega)
              clear hd hqU ht
              go_wp2_with fail
              go_roundw
              case rel => exact ⟨Q', S', rfl, rfl, hd', trivial⟩
              case measure => simp [intOf]; omega
            · have f2 : decide (4294967296 ≤ (Q : Int)) = false := decide_eq_false (by omega)
              have k1 : IntKind.u64.wrap ((Q : Int) * 4294925024) = (Q : Int) * 4294925024 := wrapU _ (by omega) (by omega)
              have k2 : IntKind.u64.wrap (4294967296 * (S : Int)) = 4294967296 * (S : Int) := wrapU _ (by omega) (by omega)
              have k3 : IntKind.u64.wrap (4294967296 * (S : Int) + (u0 : Int)) = 4294967296 * (S : Int) + (u0 : Int) := wrapU _ (by omega) (by omega)
              have k4 : decide (4294967296 * (S : Int) + (u0 : Int) < (Q : Int) * 4294925024) = true := decide_eq_true (by omega)
              clear hd hqU ht
              go_wp2_with fail
              go_roundw
              case rel => exact ⟨Q', S', rfl, rfl, hd', trivial⟩
              case measure => simp [intOf]; omega
          · have hd' := hd.stop hRl hu0l ht hs
            rw [hQ'] at hd'
            have g3 : decide (4294967296 ≤ (S' : Int)) = true := decide_eq_true (by omega)
            obtain ⟨R2, hR2l, hR2e, hR2⟩ := dR R u0 Q' hd'.1 hd'.2
            have HE2 := Lib.hid (dEnd HN.out HRE.out hR2e hR2l)
            have HR2 := Lib.hid hR2
            clear hR2 hR2e hR2l hd'
            by_cases t1 : Q ≥ 4294967296
            · have f2 : decide (4294967296 ≤ (Q : Int)) = true := decide_eq_true (by omega)
              clear hd hqU ht
              go_wp2_with fail
              simp only [HR2.out, HE2.out]
              go_ret2
              exact ⟨⟨_, rfl⟩, rfl⟩
            · have f2 : decide (4294967296 ≤ (Q : Int)) = false := decide_eq_false (by omega)
              have k1 : IntKind.u64.wrap ((Q : Int) * 4294925024) = (Q : Int) * 4294925024 := wrapU _ (by omega) (by omega)
              have k2 : IntKind.u64.wrap (4294967296 * (S : Int)) = 4294967296 * (S : Int) := wrapU _ (by omega) (by omega)
              have k3 : IntKind.u64.wrap (4294967296 * (S : Int) + (u0 : Int)) = 4294967296 * (S : Int) + (u0 : Int) := wrapU _ (by omega) (by omega)
              have k4 : decide (4294967296 * (S : Int) + (u0 : Int) < (Q : Int) * 4294925024) = true := decide_eq_true (by omega)
              clear hd hqU ht
              go_wp2_with fail
              simp only [HR2.out, HE2.out]
              go_ret2
              exact ⟨⟨_, rfl⟩, rfl⟩
        · have hn1 : ¬ Q ≥ 4294967296 := fun h => ht (.inl h)
          have hn2 : ¬ Q * 4294925024 > 4294967296 * S + u0 := fun h => ht (.inr h)
          obtain ⟨R2, hR2l, hR2e, hR2⟩ := dR R u0 Q (hd.test hn2) hd.2.2
          have HE2 := Lib.hid (dEnd HN.out HRE.out hR2e hR2l)
          have HR2 := Lib.hid hR2
          clear hR2 hR2e hR2l
          have f2 : decide (4294967296 ≤ (Q : Int)) = false := decide_eq_false (by omega)
          have k1 : IntKind.u64.wrap ((Q : Int) * 4294925024) = (Q : Int) * 4294925024 := wrapU _ (by omega) (by omega)
          have k2 : IntKind.u64.wrap (4294967296 * (S : Int)) = 4294967296 * (S : Int) := wrapU _ (by omega) (by omega)
          have k3 : IntKind.u64.wrap (4294967296 * (S : Int) + (u0 : Int)) = 4294967296 * (S : Int) + (u0 : Int) := wrapU _ (by omega) (by omega)
          have k4 : decide (4294967296 * (S : Int) + (u0 : Int) < (Q : Int) * 4294925024) = false := decide_eq_false (by omega)
          clear hd hqU ht hn2
          go_wp2_with fail
          simp only [HR2.out, HE2.out]
          go_ret2
          exact ⟨⟨_, rfl⟩, rfl⟩
end Go.Proofs.YteigldfdaciopaaGreatDoor.R

namespace Go.Proofs.YteigldfdaciopaaGreatDoor.T
open Go.RowKit
set_option linter.unusedVariables false
set_option linter.unusedSimpArgs false

theorem wrapU (a : Int) (h0 : 0 ≤ a) (h : a < 18446744073709551616) : IntKind.u64.wrap a = a := by rw [IntKind.wrap_u64]; omega
theorem yAnd : bits .and .u64 18446744073709509344 4294967295 = 4294925024 := by
  have h := bits_and_u64_nat 18446744073709509344 4294967295 (by omega) (by omega)
  have e : (18446744073709509344 : Nat) &&& 4294967295 = 4294925024 := by decide +kernel
  rw [e] at h; exact h
theorem orHi (hi lo : Nat) (hh : hi < 2305843009213693952) (hl : lo < 18446744073709551616) : bits .or .u64 ((hi : Int) * 8) ((lo : Int) / 2305843009213693952) = ((hi * 8 + lo / 2305843009213693952 : Nat) : Int) := by
  have e1 : (hi : Int) * 8 = ((hi * 8 : Nat) : Int) := by omega
  have e2 : (lo : Int) / 2305843009213693952 = ((lo / 2305843009213693952 : Nat) : Int) := by omega
  rw [e1, e2, bits_or_u64_nat _ _ (by omega) (by omega)]
  congr 1
  have := Nat.two_pow_add_eq_or_of_lt (i := 3) (b := lo / 2305843009213693952) (by omega) hi
  rw [Nat.mul_comm hi 8]; exact this.symm
theorem lowHalf (a : Nat) (h : a < 18446744073709551616) : bits .and .u64 (a : Int) 4294967295 = ((a % 4294967296 : Nat) : Int) := by
  have h2 := bits_and_u64_nat a 4294967295 h (by omega)
  have e : a &&& 4294967295 = a % 4294967296 := Nat.and_two_pow_sub_one_eq_mod a 32
  rw [e] at h2; exact h2

set_option maxHeartbeats 400000 in
theorem div64_zero (lo : Nat) (hlo : lo < 18446744073709551616) (w : World) :
    Calls Tryz.prog 90 #[.int .u64 0, .int .u64 lo, .int .u64 2305843009213688668] w fun e w' => (∃ q : Int, e = .returned (.tuple #[.int .u64 q, .int .u64 ((lo % 2305843009213688668 : Nat) : Int)])) ∧ ∃ k, w' = w.drewN k := by
  go_enter Tryz.func90, Tryz.ntmps90
  go_wp2_with fail
  go_quiet (fail)
  go_wp2_with fail
  have e : ((lo : Int)).tmod 2305843009213688668 = ((lo % 2305843009213688668 : Nat) : Int) := by rw [Int.tmod_eq_emod_of_nonneg (by omega)]; omega
  rw [← e]
  go_ret2
  exact ⟨⟨_, rfl⟩, _, rfl⟩

theorem lz (w : World) : Calls Tryz.prog 104 #[.int .u64 2305843009213688668] w fun e w' => e = .returned (.int .i64 3) ∧ w' = w := by
  have h := Tryz.bits_LeadingZeros64 2305843009213688668 w (by omega) (by omega)
  have e : (64 - (Lib.bitLen (2305843009213688668 : Int).toNat : Int)) = 3 := by decide +kernel
  rw [e] at h
  exact h

/-- What a round of the search for a digit keeps: q is not too small, r is what is left. -/
def Dig (U u q r : Nat) : Prop := q * 4294967295 + r = U ∧ r < 4294967296 ∧ U * 4294967296 + u < (q + 1) * 18446744073709509344
theorem Dig.start (U u : Nat) (hU : U < 18446744073709509344) (hu : u < 4294967296) : Dig U u (U / 4294967295) (U % 4294967295) := by
  unfold Dig; omega
theorem Dig.test {U u q r : Nat} (h : Dig U u q r) : ¬ q * 4294925024 > 4294967296 * r + u → q * 18446744073709509344 ≤ U * 4294967296 + u := by
  intro h2
  obtain ⟨h3, h4, h5⟩ := h
  clear h5
  omega
theorem Dig.less {U u q r : Nat} (h : Dig U u q r) (hU : U < 18446744073709509344) (hu : u < 4294967296) (ht : q ≥ 4294967296 ∨ q * 4294925024 > 4294967296 * r + u) : 1 ≤ q ∧ U * 4294967296 + u < q * 18446744073709509344 := by
  obtain ⟨h3, h4, h5⟩ := h
  clear h5
  rcases ht with ht | ht
  · clear h3 h4; omega
  · clear hU; omega
theorem Dig.step {U u q r : Nat} (h : Dig U u q r) (hU : U < 18446744073709509344) (hu : u < 4294967296) (ht : q ≥ 4294967296 ∨ q * 4294925024 > 4294967296 * r + u) (hr : r + 4294967295 < 4294967296) : Dig U u (q - 1) (r + 4294967295) := by
  obtain ⟨a, b⟩ := h.less hU hu ht
  obtain ⟨h3, h4, h5⟩ := h
  clear ht h5 hU hu
  obtain ⟨p, rfl⟩ : ∃ p, q = p + 1 := ⟨q - 1, by omega⟩
  refine ⟨?_, hr, ?_⟩
  · rw [Nat.add_sub_cancel]; rw [Nat.add_mul, Nat.one_mul] at h3; rw [← h3, Nat.add_assoc, Nat.add_comm r]
  · rw [Nat.add_sub_cancel]; exact b
theorem Dig.stop {U u q r : Nat} (h : Dig U u q r) (hU : U < 18446744073709509344) (hu : u < 4294967296) (ht : q ≥ 4294967296 ∨ q * 4294925024 > 4294967296 * r + u) (hr : ¬ r + 4294967295 < 4294967296) : (q - 1) * 18446744073709509344 ≤ U * 4294967296 + u ∧ U * 4294967296 + u < (q - 1 + 1) * 18446744073709509344 := by
  obtain ⟨a, b⟩ := h.less hU hu ht
  obtain ⟨h3, h4, h5⟩ := h
  clear ht h5
  obtain ⟨p, rfl⟩ : ∃ p, q = p + 1 := ⟨q - 1, by omega⟩
  rw [Nat.add_sub_cancel]
  refine ⟨?_, b⟩
  clear b a
  omega
theorem dq (U : Nat) (h : U < 18446744073709551616) : IntKind.u64.wrap ((U : Int).tdiv 4294967295) = ((U / 4294967295 : Nat) : Int) := by
  rw [Int.tdiv_eq_ediv_of_nonneg (Int.natCast_nonneg U), show (U : Int) / 4294967295 = ((U / 4294967295 : Nat) : Int) by omega]
  have : U / 4294967295 ≤ U := Nat.div_le_self _ _
  exact wrapU _ (Int.natCast_nonneg _) (by omega)
theorem dr (U : Nat) (h : U < 18446744073709551616) : IntKind.u64.wrap ((U : Int) - IntKind.u64.wrap (((U / 4294967295 : Nat) : Int) * 4294967295)) = ((U % 4294967295 : Nat) : Int) := by
  have h1 : U / 4294967295 * 4294967295 + U % 4294967295 = U := Nat.div_add_mod' U 4294967295
  have h2 : U % 4294967295 < 4294967295 := Nat.mod_lt _ (by decide)
  generalize U / 4294967295 = q at *
  generalize U % 4294967295 = r at *
  rw [wrapU ((q : Int) * 4294967295) (by omega) (by omega), wrapU _ (by omega) (by omega)]; omega
theorem dN (hi lo : Nat) : hi * 18446744073709551616 * 8 + lo * 8 = ((hi * 8 + lo / 2305843009213693952) * 4294967296 + lo * 8 % 18446744073709551616 / 4294967296) * 4294967296 + lo * 8 % 18446744073709551616 % 4294967296 := by
  have h1 : lo * 8 / 18446744073709551616 = lo / 2305843009213693952 := by omega
  have h2 := Nat.div_add_mod (lo * 8) 18446744073709551616
  rw [h1] at h2
  generalize lo * 8 % 18446744073709551616 = L at *
  have h3 := Nat.div_add_mod L 4294967296
  generalize lo / 2305843009213693952 = t at *
  generalize L / 4294967296 = a at *
  generalize L % 4294967296 = b at *
  omega

theorem wrapSub (X Z u Y : Nat) (h1 : Z ≤ X + u) (h2 : X + u < Z + Y) (hY : Y ≤ 18446744073709551616) : IntKind.u64.wrap (IntKind.u64.wrap (IntKind.u64.wrap (X : Int) + (u : Int)) - IntKind.u64.wrap (Z : Int)) = ((X + u - Z : Nat) : Int) := by
  simp only [IntKind.wrap_u64]; omega
theorem dR (U u q : Nat) (h1 : q * 18446744073709509344 ≤ U * 4294967296 + u) (h2 : U * 4294967296 + u < (q + 1) * 18446744073709509344) :
    ∃ R, R < 18446744073709509344 ∧ U * 4294967296 + u = q * 18446744073709509344 + R ∧
      IntKind.u64.wrap (IntKind.u64.wrap (IntKind.u64.wrap ((U : Int) * 4294967296) + (u : Int)) - IntKind.u64.wrap ((q : Int) * 18446744073709509344)) = (R : Int) := by
  rw [Nat.add_mul, Nat.one_mul] at h2
  refine ⟨U * 4294967296 + u - q * 18446744073709509344, by omega, by omega, ?_⟩
  have e1 : (U : Int) * 4294967296 = ((U * 4294967296 : Nat) : Int) := by omega
  have e2 : (q : Int) * 18446744073709509344 = ((q * 18446744073709509344 : Nat) : Int) := by omega
  rw [e1, e2]
  exact wrapSub _ _ _ _ h1 h2 (by decide)
theorem dEnd {hi lo U u1 u0 q1 q0 R R2 : Nat} (hN : hi * 18446744073709551616 * 8 + lo * 8 = (U * 4294967296 + u1) * 4294967296 + u0) (h1 : U * 4294967296 + u1 = q1 * 18446744073709509344 + R)
    (h2 : R * 4294967296 + u0 = q0 * 18446744073709509344 + R2) (h3 : R2 < 18446744073709509344) : (R2 : Int) / 8 = (((hi * 18446744073709551616 + lo) % 2305843009213688668 : Nat) : Int) := by
  obtain ⟨N, hNd⟩ : ∃ N, hi * 18446744073709551616 + lo = N := ⟨_, rfl⟩
  have e : N * 8 = (q1 * 4294967296 + q0) * 18446744073709509344 + R2 := by
    have : N * 8 = hi * 18446744073709551616 * 8 + lo * 8 := by rw [← hNd, Nat.add_mul]
    rw [this, hN, h1, Nat.add_mul, Nat.add_assoc, h2, Nat.add_mul]
    clear this hN h1 h2 hNd h3
    omega
  rw [hNd]
  clear hN h1 h2 hNd
  obtain ⟨K, hK⟩ : ∃ K, q1 * 4294967296 + q0 = K := ⟨_, rfl⟩
  rw [hK] at e
  clear hK
  have e3 : N = K * 2305843009213688668 + R2 / 8 := by omega
  have e4 : N % 2305843009213688668 = R2 / 8 := by
    rw [e3, Nat.mul_comm, Nat.mul_add_mod, Nat.mod_eq_of_lt (by omega)]
  rw [e4]
  omega

set_option maxHeartbeats 400000 in
set_option pp.deepTerms true in
set_option pp.maxSteps 1000000 in
theorem div64_pos (hi lo : Nat) (h0 : 0 < hi) (hhi : hi < 2305843009213688668) (hlo : lo < 18446744073709551616) (w : World) :
    Calls Tryz.prog 90 #[.int .u64 hi, .int .u64 lo, .int .u64 2305843009213688668] w fun e w' => (∃ q : Int, e = .returned (.tuple #[.int .u64 q, .int .u64 (((hi * 18446744073709551616 + lo) % 2305843009213688668 : Nat) : Int)])) ∧ w' = w := by
  have f0 : ((hi : Int) == 0) = false := by simp; omega
  have f1 : decide (2305843009213688668 ≤ (hi : Int)) = false := decide_eq_false (by omega)
  have hU := orHi hi lo (by omega) hlo
  obtain ⟨L, hLd⟩ : ∃ L, lo * 8 % 18446744073709551616 = L := ⟨_, rfl⟩
  have hL : IntKind.u64.wrap ((lo : Int) * 8) = (L : Int) := by rw [IntKind.wrap_u64]; omega
  have hLlt : L < 18446744073709551616 := by omega
  have hL1 : (L : Int) / 4294967296 = ((L / 4294967296 : Nat) : Int) := by omega
  have hL0 := lowHalf L hLlt
  have hu1l : L / 4294967296 < 4294967296 := by omega
  have hu0l : L % 4294967296 < 4294967296 := Nat.mod_lt _ (by decide)
  obtain ⟨U, hUd⟩ : ∃ U, hi * 8 + lo / 2305843009213693952 = U := ⟨_, rfl⟩
  rw [hUd] at hU
  have hUlt : U < 18446744073709509344 := by omega
  have hq := dq U (by omega)
  have hr := dr U (by omega)
  have hD := Dig.start U (L / 4294967296) hUlt hu1l
  have hN := dN hi lo
  rw [hLd, hUd] at hN
  obtain ⟨u1, hu1⟩ : ∃ u1, L / 4294967296 = u1 := ⟨_, rfl⟩
  obtain ⟨u0, hu0⟩ : ∃ u0, L % 4294967296 = u0 := ⟨_, rfl⟩
  rw [hu1] at hu1l; rw [hu0] at hu0l
  rw [hu1] at hL1 hD hN
  rw [hu0] at hL0 hN
  have HU := Lib.hid hU; have HL := Lib.hid hL; have HL1 := Lib.hid hL1; have HL0 := Lib.hid hL0; have HQ := Lib.hid hq; have HR := Lib.hid hr; have HDD := Lib.hid hD; have HN := Lib.hid hN
  clear hU hL hL1 hL0 hq hr hD hN hLd hUd hu1 hu0
  go_enter Tryz.func90, Tryz.ntmps90
  go_wp2_with (go_at_call 104; refine (lz _).mono ?_; rintro e w' ⟨rfl, hw⟩; rw [hw]; clear hw w')
  simp only [HU.out, HL.out, HL1.out, HL0.out, HQ.out, HR.out, yAnd]
  go_loopw [15, 16] (fun a b wr => ∃ q r : Nat, a = .int .u64 q ∧ b = .int .u64 r ∧ Dig U u1 q r ∧ wr = w) (fun a _ _ => (intOf a).toNat)
  case atStart => exact ⟨_, _, rfl, rfl, HDD.out, rfl⟩
  case round =>
    obtain ⟨q, r, rfl, rfl, hd, hw⟩ := hrel
    subst hw
    have hrl : r < 4294967296 := hd.2.1
    have hqU : q * 4294967295 + r = U := hd.1
    have hq1 : q < 4294967299 := by clear HN; omega
    by_cases ht : q ≥ 4294967296 ∨ q * 4294925024 > 4294967296 * r + u1
    · have hq0 : 1 ≤ q := by omega
      obtain ⟨q', hq'⟩ : ∃ q', q - 1 = q' := ⟨_, rfl⟩
      obtain ⟨r', hr'⟩ : ∃ r', r + 4294967295 = r' := ⟨_, rfl⟩
      have g1 : IntKind.u64.wrap ((q : Int) - 1) = (q' : Int) := by rw [wrapU _ (by omega) (by omega)]; omega
      have g2 : IntKind.u64.wrap ((r : Int) + 4294967295) = (r' : Int) := by rw [wrapU _ (by omega) (by omega)]; omega
      by_cases hs : r + 4294967295 < 4294967296
      · have hd' := hd.step hUlt hu1l ht hs
        rw [hq', hr'] at hd'
        have g3 : decide (4294967296 ≤ (r' : Int)) = false := decide_eq_false (by omega)
        by_cases t1 : q ≥ 4294967296
        · have f2 : decide (4294967296 ≤ (q : Int)) = true := decide_eq_true (by omega)
          clear hd hqU ht
          go_wp2_with fail
          go_roundw
          case rel => exact ⟨q', r', rfl, rfl, hd', trivial⟩
          case measure => simp [intOf]; omega
        · have f2 : decide (4294967296 ≤ (q : Int)) = false := decide_eq_false (by omega)
          have k1 : IntKind.u64.wrap ((q : Int) * 4294925024) = (q : Int) * 4294925024 := wrapU _ (by omega) (by omega)
          have k2 : IntKind.u64.wrap (4294967296 * (r : Int)) = 4294967296 * (r : Int) := wrapU _ (by omega) (by omega)
          have k3 : IntKind.u64.wrap (4294967296 * (r : Int) + (u1 : Int)) = 4294967296 * (r : Int) + (u1 : Int) := wrapU _ (by omega) (by omega)
          have k4 : decide (4294967296 * (r : Int) + (u1 : Int) < (q : Int) * 4294925024) = true := decide_eq_true (by omega)
          clear hd hqU ht
          go_wp2_with fail
          go_roundw
          case rel => exact ⟨q', r', rfl, rfl, hd', trivial⟩
          case measure => simp [intOf]; omega
      · have hd' := hd.stop hUlt hu1l ht hs
        rw [hq'] at hd'
        have g3 : decide (4294967296 ≤ (r' : Int)) = true := decide_eq_true (by omega)
        have hq1 : q' < 4294967296 := by omega
        have HE := Lib.hid hd'
        by_cases t1 : q ≥ 4294967296
        · have f2 : decide (4294967296 ≤ (q : Int)) = true := decide_eq_true (by omega)
          clear hd hd' hqU ht
          go_wp2_with fail
          clear HDD
          obtain ⟨R, hRl, HRe, hR⟩ := dR U u1 q' HE.out.1 HE.out.2
          have HRE := Lib.hid HRe
          clear HRe
          have hq2 := dq R (Nat.lt_trans hRl (by decide))
          have hr2 := dr R (Nat.lt_trans hRl (by decide))
          have HD2 := Lib.hid (Dig.start R u0 hRl hu0l)
          simp only [hR, hq2, hr2]
          clear hR hq2 hr2
          go_loopw [18, 16] (fun a b wr' => ∃ q r : Nat, a = .int .u64 q ∧ b = .int .u64 r ∧ Dig R u0 q r ∧ wr' = wr) (fun a _ _ => (intOf a).toNat)
          case atStart => exact ⟨_, _, rfl, rfl, HD2.out, rfl⟩
          case round =>
            clear HD2
            obtain ⟨Q, S, rfl, rfl, hd, hw⟩ := hrel
            subst hw
            have hrl : S < 4294967296 := hd.2.1
            have hqU : Q * 4294967295 + S = R := hd.1
            have hq2 : Q < 4294967299 := by clear HN; omega
            by_cases ht : Q ≥ 4294967296 ∨ Q * 4294925024 > 4294967296 * S + u0
            · have hq0 : 1 ≤ Q := by omega
              obtain ⟨Q', hQ'⟩ : ∃ q', Q - 1 = q' := ⟨_, rfl⟩
              obtain ⟨S', hS'⟩ : ∃ r', S + 4294967295 = r' := ⟨_, rfl⟩
              have g1 : IntKind.u64.wrap ((Q : Int) - 1) = (Q' : Int) := by rw [wrapU _ (by omega) (by omega)]; omega
              have g2 : IntKind.u64.wrap ((S : Int) + 4294967295) = (S' : Int) := by rw [wrapU _ (by omega) (by omega)]; omega
              by_cases hs : S + 4294967295 < 4294967296
              · have hd' := hd.step hRl hu0l ht hs
                rw [hQ', hS'] at hd'
                have g3 : decide (4294967296 ≤ (S' : Int)) = false := decide_eq_false (by omega)
                by_cases t1 : Q ≥ 4294967296
                · have f2 : decide (4294967296 ≤ (Q : Int)) = true := decide_eq_true (by omega)
                  clear hd hqU ht
                  go_wp2_with fail
                  go_roundw
                  case rel => exact ⟨Q', S', rfl, rfl, hd', trivial⟩
                  case measure => simp [intOf]; omega
                · have f2 : decide (4294967296 ≤ (Q : Int)) = false := decide_eq_false (by omega)
                  have k1 : IntKind.u64.wrap ((Q : Int) * 4294925024) = (Q : Int) * 4294925024 := wrapU _ (by omega) (by omega)
                  have k2 : IntKind.u64.wrap (4294967296 * (S : Int)) = 4294967296 * (S : Int) := wrapU _ (by omega) (by omega)
                  have k3 : IntKind.u64.wrap (4294967296 * (S : Int) + (u0 : Int)) = 4294967296 * (S : Int) + (u0 : Int) := wrapU _ (by omega) (by omega)
                  have k4 : decide (4294967296 * (S : Int) + (u0 : Int) < (Q : Int) * 4294925024) = true := decide_eq_true (by omega)
                  clear hd hqU ht
                  go_wp2_with fail
                  go_roundw
                  case rel => exact ⟨Q', S', rfl, rfl, hd', trivial⟩
                  case measure => simp [intOf]; omega
              · have hd' := hd.stop hRl hu0l ht hs
                rw [hQ'] at hd'
                have g3 : decide (4294967296 ≤ (S' : Int)) = true := decide_eq_true (by omega)
                obtain ⟨R2, hR2l, hR2e, hR2⟩ := dR R u0 Q' hd'.1 hd'.2
                have HE2 := Lib.hid (dEnd HN.out HRE.out hR2e hR2l)
                have HR2 := Lib.hid hR2
                clear hR2 hR2e hR2l hd'
                by_cases t1 : Q ≥ 4294967296
                · have f2 : decide (4294967296 ≤ (Q : Int)) = true := decide_eq_true (by omega)
                  clear hd hqU ht
                  go_wp2_with fail
                  simp only [HR2.out, HE2.out]
                  go_ret2
                  exact ⟨⟨_, rfl⟩, rfl⟩
                · have f2 : decide (4294967296 ≤ (Q : Int)) = false := decide_eq_false (by omega)
                  have k1 : IntKind.u64.wrap ((Q : Int) * 4294925024) = (Q : Int) * 4294925024 := wrapU _ (by omega) (by omega)
                  have k2 : IntKind.u64.wrap (4294967296 * (S : Int)) = 4294967296 * (S : Int) := wrapU _ (by omega) (by omega)
                  have k3 : IntKind.u64.wrap (4294967296 * (S : Int) + (u0 : Int)) = 4294967296 * (S : Int) + (u0 : Int) := wrapU _ (by omega) (by omega)
                  have k4 : decide (4294967296 * (S : Int) + (u0 : Int) < (Q : Int) * 4294925024) = true := decide_eq_true (by omega)
                  clear hd hqU ht
                  go_wp2_with fail
                  simp only [HR2.out, HE2.out]
                  go_ret2
                  exact ⟨⟨_, rfl⟩, rfl⟩
            · have hn1 : ¬ Q ≥ 4294967296 := fun h => ht (.inl h)
              have hn2 : ¬ Q * 4294925024 > 4294967296 * S + u0 := fun h => ht (.inr h)
              obtain ⟨R2, hR2l, hR2e, hR2⟩ := dR R u0 Q (hd.test hn2) hd.2.2
              have HE2 := Lib.hid (dEnd HN.out HRE.out hR2e hR2l)
              have HR2 := Lib.hid hR2
              clear hR2 hR2e hR2l
              have f2 : decide (4294967296 ≤ (Q : Int)) = false := decide_eq_false (by omega)
              have k1 : IntKind.u64.wrap ((Q : Int) * 4294925024) = (Q : Int) * 4294925024 := wrapU _ (by omega) (by omega)
              have k2 : IntKind.u64.wrap (4294967296 * (S : Int)) = 4294967296 * (S : Int) := wrapU _ (by omega) (by omega)
              have k3 : IntKind.u64.wrap (4294967296 * (S : Int) + (u0 : Int)) = 4294967296 * (S : Int) + (u0 : Int) := wrapU _ (by omega) (by omega)
              have k4 : decide (4294967296 * (S : Int) + (u0 : Int) < (Q : Int) * 4294925024) = false := decide_eq_false (by omega)
              clear hd hqU ht hn2
              go_wp2_with fail
              simp only [HR2.out, HE2.out]
              go_ret2
              exact ⟨⟨_, rfl⟩, rfl⟩
        · have f2 : decide (4294967296 ≤ (q : Int)) = false := decide_eq_false (by omega)
          have k1 : IntKind.u64.wrap ((q : Int) * 4294925024) = (q : Int) * 4294925024 := wrapU _ (by omega) (by omega)
          have k2 : IntKind.u64.wrap (4294967296 * (r : Int)) = 4294967296 * (r : Int) := wrapU _ (by omega) (by omega)
          have k3 : IntKind.u64.wrap (4294967296 * (r : Int) + (u1 : Int)) = 4294967296 * (r : Int) + (u1 : Int) := wrapU _ (by omega) (by omega)
          have k4 : decide (4294967296 * (r : Int) + (u1 : Int) < (q : Int) * 4294925024) = true := decide_eq_true (by omega)
          clear hd hd' hqU ht
          go_wp2_with fail
          clear HDD
          obtain ⟨R, hRl, HRe, hR⟩ := dR U u1 q' HE.out.1 HE.out.2
          have HRE := Lib.hid HRe
          clear HRe
          have hq2 := dq R (Nat.lt_trans hRl (by decide))
          have hr2 := dr R (Nat.lt_trans hRl (by decide))
          have HD2 := Lib.hid (Dig.start R u0 hRl hu0l)
          simp only [hR, hq2, hr2]
          clear hR hq2 hr2
          go_loopw [18, 16] (fun a b wr' => ∃ q r : Nat, a = .int .u64 q ∧ b = .int .u64 r ∧ Dig R u0 q r ∧ wr' = wr) (fun a _ _ => (intOf a).toNat)
          case atStart => exact ⟨_, _, rfl, rfl, HD2.out, rfl⟩
          case round =>
            clear HD2
            obtain ⟨Q, S, rfl, rfl, hd, hw⟩ := hrel
            subst hw
            have hrl : S < 4294967296 := hd.2.1
            have hqU : Q * 4294967295 + S = R := hd.1
            have hq2 : Q < 4294967299 := by clear HN; omega
            by_cases ht : Q ≥ 4294967296 ∨ Q * 4294925024 > 4294967296 * S + u0
            · have hq0 : 1 ≤ Q := by omega
              obtain ⟨Q', hQ'⟩ : ∃ q', Q - 1 = q' := ⟨_, rfl⟩
              obtain ⟨S', hS'⟩ : ∃ r', S + 4294967295 = r' := ⟨_, rfl⟩
              have g1 : IntKind.u64.wrap ((Q : Int) - 1) = (Q' : Int) := by rw [wrapU _ (by omega) (by omega)]; omega
              have g2 : IntKind.u64.wrap ((S : Int) + 4294967295) = (S' : Int) := by rw [wrapU _ (by omega) (by omega)]; omega
              by_cases hs : S + 4294967295 < 4294967296
              · have hd' := hd.step hRl hu0l ht hs
                rw [hQ', hS'] at hd'
                have g3 : decide (4294967296 ≤ (S' : Int)) = false := decide_eq_false (by omega)
                by_cases t1 : Q ≥ 4294967296
                · have f2 : decide (4294967296 ≤ (Q : Int)) = true := decide_eq_true (by omega)
                  clear hd hqU ht
                  go_wp2_with fail
                  go_roundw
                  case rel => exact ⟨Q', S', rfl, rfl, hd', trivial⟩
                  case measure => simp [intOf]; omega
                · have f2 : decide (4294967296 ≤ (Q : Int)) = false := decide_eq_false (by omega)
                  have k1 : IntKind.u64.wrap ((Q : Int) * 4294925024) = (Q : Int) * 4294925024 := wrapU _ (by omega) (by omega)
                  have k2 : IntKind.u64.wrap (4294967296 * (S : Int)) = 4294967296 * (S : Int) := wrapU _ (by omega) (by omega)
                  have k3 : IntKind.u64.wrap (4294967296 * (S : Int) + (u0 : Int)) = 4294967296 * (S : Int) + (u0 : Int) := wrapU _ (by omega) (by omega)
                  have k4 : decide (4294967296 * (S : Int) + (u0 : Int) < (Q : Int) * 4294925024) = true := decide_eq_true (by omega)
                  clear hd hqU ht
                  go_wp2_with fail
                  go_roundw
                  case rel => exact ⟨Q', S', rfl, rfl, hd', trivial⟩
                  case measure => simp [intOf]; omega
              · have hd' := hd.stop hRl hu0l ht hs
                rw [hQ'] at hd'
                have g3 : decide (4294967296 ≤ (S' : Int)) = true := decide_eq_true (by omega)
                obtain ⟨R2, hR2l, hR2e, hR2⟩ := dR R u0 Q' hd'.1 hd'.2
                have HE2 := Lib.hid (dEnd HN.out HRE.out hR2e hR2l)
                have HR2 := Lib.hid hR2
                clear hR2 hR2e hR2l hd'
                by_cases t1 : Q ≥ 4294967296
                · have f2 : decide (4294967296 ≤ (Q : Int)) = true := decide_eq_true (by omega)
                  clear hd hqU ht
                  go_wp2_with fail
                  simp only [HR2.out, HE2.out]
                  go_ret2
                  exact ⟨⟨_, rfl⟩, rfl⟩
                · have f2 : decide (4294967296 ≤ (Q : Int)) = false := decide_eq_false (by omega)
                  have k1 : IntKind.u64.wrap ((Q : Int) * 4294925024) = (Q : Int) * 4294925024 := wrapU _ (by omega) (by omega)
                  have k2 : IntKind.u64.wrap (4294967296 * (S : Int)) = 4294967296 * (S : Int) := wrapU _ (by omega) (by omega)
                  have k3 : IntKind.u64.wrap (4294967296 * (S : Int) + (u0 : Int)) = 4294967296 * (S : Int) + (u0 : Int) := wrapU _ (by omega) (by omega)
                  have k4 : decide (4294967296 * (S : Int) + (u0 : Int) < (Q : Int) * 4294925024) = true := decide_eq_true (by omega)
                  clear hd hqU ht
                  go_wp2_with fail
                  simp only [HR2.out, HE2.out]
                  go_ret2
                  exact ⟨⟨_, rfl⟩, rfl⟩
            · have hn1 : ¬ Q ≥ 4294967296 := fun h => ht (.inl h)
              have hn2 : ¬ Q * 4294925024 > 4294967296 * S + u0 := fun h => ht (.inr h)
              obtain ⟨R2, hR2l, hR2e, hR2⟩ := dR R u0 Q (hd.test hn2) hd.2.2
              have HE2 := Lib.hid (dEnd HN.out HRE.out hR2e hR2l)
              have HR2 := Lib.hid hR2
              clear hR2 hR2e hR2l
              have f2 : decide (4294967296 ≤ (Q : Int)) = false := decide_eq_false (by omega)
              have k1 : IntKind.u64.wrap ((Q : Int) * 4294925024) = (Q : Int) * 4294925024 := wrapU _ (by omega) (by omega)
              have k2 : IntKind.u64.wrap (4294967296 * (S : Int)) = 4294967296 * (S : Int) := wrapU _ (by omega) (by omega)
              have k3 : IntKind.u64.wrap (4294967296 * (S : Int) + (u0 : Int)) = 4294967296 * (S : Int) + (u0 : Int) := wrapU _ (by omega) (by omega)
              have k4 : decide (4294967296 * (S : Int) + (u0 : Int) < (Q : Int) * 4294925024) = false := decide_eq_false (by omega)
              clear hd hqU ht hn2
              go_wp2_with fail
              simp only [HR2.out, HE2.out]
              go_ret2
              exact ⟨⟨_, rfl⟩, rfl⟩
    · have hn1 : ¬ q ≥ 4294967296 := fun h => ht (.inl h)
      have hn2 : ¬ q * 4294925024 > 4294967296 * r + u1 := fun h => ht (.inr h)
      have HE := Lib.hid (And.intro (hd.test hn2) hd.2.2)
      have f2 : decide (4294967296 ≤ (q : Int)) = false := decide_eq_false (by omega)
      have k1 : IntKind.u64.wrap ((q : Int) * 4294925024) = (q : Int) * 4294925024 := wrapU _ (by omega) (by omega)
      have k2 : IntKind.u64.wrap (4294967296 * (r : Int)) = 4294967296 * (r : Int) := wrapU _ (by omega) (by omega)
      have k3 : IntKind.u64.wrap (4294967296 * (r : Int) + (u1 : Int)) = 4294967296 * (r : Int) + (u1 : Int) := wrapU _ (by omega) (by omega)
      have k4 : decide (4294967296 * (r : Int) + (u1 : Int) < (q : Int) * 4294925024) = false := decide_eq_false (by omega)
      clear hd hqU ht hn2
      go_wp2_with fail
      clear HDD
      obtain ⟨R, hRl, HRe, hR⟩ := dR U u1 q HE.out.1 HE.out.2
      have HRE := Lib.hid HRe
      clear HRe
      have hq2 := dq R (Nat.lt_trans hRl (by decide))
      have hr2 := dr R (Nat.lt_trans hRl (by decide))
      have HD2 := Lib.hid (Dig.start R u0 hRl hu0l)
      simp only [hR, hq2, hr2]
      clear hR hq2 hr2
      go_loopw [18, 16] (fun a b wr' => ∃ q r : Nat, a = .int .u64 q ∧ b = .int .u64 r ∧ Dig R u0 q r ∧ wr' = wr) (fun a _ _ => (intOf a).toNat)
      case atStart => exact ⟨_, _, rfl, rfl, HD2.out, rfl⟩
      case round =>
        clear HD2
        obtain ⟨Q, S, rfl, rfl, hd, hw⟩ := hrel
        subst hw
        have hrl : S < 4294967296 := hd.2.1
        have hqU : Q * 4294967295 + S = R := hd.1
        have hq2 : Q < 4294967299 := by clear HN; omega
        by_cases ht : Q ≥ 4294967296 ∨ Q * 4294925024 > 4294967296 * S + u0
        · have hq0 : 1 ≤ Q := by omega
          obtain ⟨Q', hQ'⟩ : ∃ q', Q - 1 = q' := ⟨_, rfl⟩
          obtain ⟨S', hS'⟩ : ∃ r', S + 4294967295 = r' := ⟨_, rfl⟩
          have g1 : IntKind.u64.wrap ((Q : Int) - 1) = (Q' : Int) := by rw [wrapU _ (by omega) (by omega)]; omega
          have g2 : IntKind.u64.wrap ((S : Int) + 4294967295) = (S' : Int) := by rw [wrapU _ (by omega) (by omega)]; omega
          by_cases hs : S + 4294967295 < 4294967296
          · have hd' := hd.step hRl hu0l ht hs
            rw [hQ', hS'] at hd'
            have g3 : decide (4294967296 ≤ (S' : Int)) = false := decide_eq_false (by omega)
            by_cases t1 : Q ≥ 4294967296
            · have f2 : decide (4294967296 ≤ (Q : Int)) = true := decide_eq_true (by omega)
              clear hd hqU ht
              go_wp2_with fail
              go_roundw
              case rel => exact ⟨Q', S', rfl, rfl, hd', trivial⟩
              case measure => simp [intOf]; omega
            · have f2 : decide (4294967296 ≤ (Q : Int)) = false := decide_eq_false (by omega)
              have k1 : IntKind.u64.wrap ((Q : Int) * 4294925024) = (Q : Int) * 4294925024 := wrapU _ (by omega) (by omega)
              have k2 : IntKind.u64.wrap (4294967296 * (S : Int)) = 4294967296 * (S : Int) := wrapU _ (by omega) (by omega)
              have k3 : IntKind.u64.wrap (4294967296 * (S : Int) + (u0 : Int)) = 4294967296 * (S : Int) + (u0 : Int) := wrapU _ (by omega) (by omega)
              have k4 : decide (4294967296 * (S : Int) + (u0 : Int) < (Q : Int) * 4294925024) = true := decide_eq_true (by omega)
              clear hd hqU ht
              go_wp2_with fail
              go_roundw
              case rel => exact ⟨Q', S', rfl, rfl, hd', trivial⟩
              case measure => simp [intOf]; omega
          · have hd' := hd.stop hRl hu0l ht hs
            rw [hQ'] at hd'
            have g3 : decide (4294967296 ≤ (S' : Int)) = true := decide_eq_true (by omega)
            obtain ⟨R2, hR2l, hR2e, hR2⟩ := dR R u0 Q' hd'.1 hd'.2
            have HE2 := Lib.hid (dEnd HN.out HRE.out hR2e hR2l)
            have HR2 := Lib.hid hR2
            clear hR2 hR2e hR2l hd'
            by_cases t1 : Q ≥ 4294967296
            · have f2 : decide (4294967296 ≤ (Q : Int)) = true := decide_eq_true (by omega)
              clear hd hqU ht
              go_wp2_with fail
              simp only [HR2.out, HE2.out]
              go_ret2
              exact ⟨⟨_, rfl⟩, rfl⟩
            · have f2 : decide (4294967296 ≤ (Q : Int)) = false := decide_eq_false (by omega)
              have k1 : IntKind.u64.wrap ((Q : Int) * 4294925024) = (Q : Int) * 4294925024 := wrapU _ (by omega) (by omega)
              have k2 : IntKind.u64.wrap (4294967296 * (S : Int)) = 4294967296 * (S : Int) := wrapU _ (by omega) (by omega)
              have k3 : IntKind.u64.wrap (4294967296 * (S : Int) + (u0 : Int)) = 4294967296 * (S : Int) + (u0 : Int) := wrapU _ (by omega) (by omega)
              have k4 : decide (4294967296 * (S : Int) + (u0 : Int) < (Q : Int) * 4294925024) = true := decide_eq_true (by omega)
              clear hd hqU ht
              go_wp2_with fail
              simp only [HR2.out, HE2.out]
              go_ret2
              exact ⟨⟨_, rfl⟩, rfl⟩
        · have hn1 : ¬ Q ≥ 4294967296 := fun h => ht (.inl h)
          have hn2 : ¬ Q * 4294925024 > 4294967296 * S + u0 := fun h => ht (.inr h)
          obtain ⟨R2, hR2l, hR2e, hR2⟩ := dR R u0 Q (hd.test hn2) hd.2.2
          have HE2 := Lib.hid (dEnd HN.out HRE.out hR2e hR2l)
          have HR2 := Lib.hid hR2
          clear hR2 hR2e hR2l
          have f2 : decide (4294967296 ≤ (Q : Int)) = false := decide_eq_false (by omega)
          have k1 : IntKind.u64.wrap ((Q : Int) * 4294925024) = (Q : Int) * 4294925024 := wrapU _ (by omega) (by omega)
          have k2 : IntKind.u64.wrap (4294967296 * (S : Int)) = 4294967296 * (S : Int) := wrapU _ (by omega) (by omega)
          have k3 : IntKind.u64.wrap (4294967296 * (S : Int) + (u0 : Int)) = 4294967296 * (S : Int) + (u0 : Int) := wrapU _ (by omega) (by omega)
          have k4 : decide (4294967296 * (S : Int) + (u0 : Int) < (Q : Int) * 4294925024) = false := decide_eq_false (by omega)
          clear hd hqU ht hn2
          go_wp2_with fail
          simp only [HR2.out, HE2.out]
          go_ret2
          exact ⟨⟨_, rfl⟩, rfl⟩
end Go.Proofs.YteigldfdaciopaaGreatDoor.T
