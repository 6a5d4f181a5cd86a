/-
  The reference of sign: keys, Public, Sign, Verify.
-/
import Derived.Test.YtgpcbckpfnhhcaaDoorSr
import Derived.Test.YtgpcbckpfnhhcaaDoorSw
import Derived.Test.YtgpcbckpfnhhcaaDoorPkF
namespace Go.Proofs.YtgpcbckpfnhhcaaDoor
open Go.RowKit
set_option linter.unusedVariables false
set_option linter.unusedSimpArgs false

/-- The private key that a number stands for. -/
def keyN (n : Int) : Nat := 1 + ofI n % 2305843009213688668
theorem keyN_bd (n : Int) : 1 ≤ keyN n ∧ keyN n < 2305843009213688669 := by unfold keyN; omega
theorem rKey (n : Int) (h : -9223372036854775808 ≤ n) (h2 : n < 9223372036854775808) (w : World) :
    Calls Tryd.prog 11 #[.int .i64 n] w fun e w' => e = .returned (.int .i64 (keyN n : Nat)) ∧ w' = w := by
  have k := fun w => lOf n h h2 w
  have hl := ofI_lt n
  have hk : keyN n = 1 + ofI n % 2305843009213688668 := rfl
  generalize ofI n = m at *
  have c1 : (m : Int).tmod 2305843009213688668 = ((m % 2305843009213688668 : Nat) : Int) := by rw [Int.tmod_eq_emod_of_nonneg (by omega)]; omega
  have hq : m % 2305843009213688668 < 2305843009213688669 := by omega
  generalize m % 2305843009213688668 = q at *
  have c2 := wrapI (q : Int) (by omega) (by omega)
  have c3 := wrapI (1 + (q : Int)) (by omega) (by omega)
  generalize keyN n = y at *
  have HE : Hid (1 + (q : Int) = (y : Int)) := Lib.hid (by omega)
  clear hk
  go_enter Tryd.func11, Tryd.ntmps11
  go_wp2_with (go_at_call 24; with_reducible refine (k _).mono ?_; rintro e w' ⟨rfl, hw⟩; rw [hw]; clear hw w')
  go_ret
  exact ⟨by rw [← HE.out]; rfl, rfl⟩

theorem rPrivate_ok (x : Int) (h : IsKey x) (w : World) :
    Calls Tryd.prog 30 #[.int .i64 x] w fun e w' => e = .returned (.bool true) ∧ w' = w := by
  have f1 : decide (1 ≤ x) = true := decide_eq_true h.1
  have f2 : decide (x < 2305843009213688669) = true := decide_eq_true h.2
  go_enter Tryd.func30, Tryd.ntmps30
  go_wp2_with fail
  go_ret
  exact ⟨rfl, rfl⟩
theorem rPrivate_bad (x : Int) (h : ¬ IsKey x) (w : World) :
    Calls Tryd.prog 30 #[.int .i64 x] w fun e w' => e = .returned (.bool false) ∧ w' = w := by
  by_cases h1 : 1 ≤ x
  · have f1 : decide (1 ≤ x) = true := decide_eq_true h1
    have f2 : decide (x < 2305843009213688669) = false := decide_eq_false (fun h2 => h ⟨h1, h2⟩)
    go_enter Tryd.func30, Tryd.ntmps30
    go_wp2_with fail
    go_ret
    exact ⟨rfl, rfl⟩
  · have f1 : decide (1 ≤ x) = false := decide_eq_false h1
    go_enter Tryd.func30, Tryd.ntmps30
    go_wp2_with fail
    go_ret
    exact ⟨rfl, rfl⟩
theorem rPublic_ok (x : Nat) (h1 : 1 ≤ x) (h2 : x < 2305843009213688669) (w : World) :
    Calls Tryd.prog 13 #[.int .i64 x] w fun e w' => e = .returned (.tuple #[.int .i64 (pubS x : Nat), .int .i64 0]) ∧ w' = w := by
  have k := fun w => hBase_any x w
  rw [base_pub x h2] at k
  have k0 := fun w => rPrivate_ok x ⟨by omega, by omega⟩ w
  generalize pubS x = p at *
  go_enter Tryd.func13, Tryd.ntmps13
  go_wp2_with (first
    | (go_at_call 30; with_reducible refine (k0 _).mono ?_; rintro e w1 ⟨rfl, hw⟩; rw [hw]; clear hw w1)
    | (go_at_call 31; with_reducible refine (k _).mono ?_; rintro e w1 ⟨rfl, hw⟩; rw [hw]; clear hw w1))
  go_ret2
  exact ⟨rfl, rfl⟩
theorem rPublic_bad (x : Int) (h : ¬ IsKey x) (w : World) :
    Calls Tryd.prog 13 #[.int .i64 x] w fun e w' => e = .returned (.tuple #[.int .i64 0, .int .i64 50]) ∧ w' = w := by
  have k0 := fun w => rPrivate_bad x h w
  go_enter Tryd.func13, Tryd.ntmps13
  go_wp2_with (go_at_call 30; with_reducible refine (k0 _).mono ?_; rintro e w1 ⟨rfl, hw⟩; rw [hw]; clear hw w1)
  go_ret2
  exact ⟨rfl, rfl⟩

set_option maxRecDepth 100000 in
theorem rSign_bad (x : Int) (h : ¬ IsKey x) (a : Option Addr) (n cap : Nat) (w : World) :
    Calls Tryd.prog 15 #[.int .i64 x, .slice a n cap] w fun e w' => e = .returned (.tuple #[sigV 0 0, .int .i64 50]) ∧ Below w.heap.size w w' := by
  have k1 := fun w => rPublic_bad x h w
  have HB0 := Below.refl w.heap.size w
  have HB : Below w.heap.size w (w.alloc (.cells #[.int .i64 0, .int .i64 0] 30)) := HB0.alloc (Nat.le_refl _) _
  have HG := SG.new w 0 0
  clear h
  go_enter Tryd.func15, Tryd.ntmps15
  go_wp2_with (first
    | (go_at_call 13; with_reducible refine (k1 _).mono ?_; rintro e w1 ⟨rfl, hw⟩; rw [hw]; clear hw w1 k1))
  have HG9 := (HG.set0 0).set1 0
  have HB9 := (HB.setCell (p := ⟨w.heap.size, 0, none⟩) (Nat.le_refl _) (.int .i64 0)).setCell (p := ⟨w.heap.size, 1, none⟩) (Nat.le_refl _) (.int .i64 0)
  refine bodyPost_ret (v := .tuple #[sigV 0 0, .int .i64 50]) ?_ rfl ⟨rfl, by first | exact HB9 | exact HB⟩
  first
    | exact results_cell_tmp rfl _ _ w.heap.size 0 [.int .i64 0, .int .i64 0] _ rfl HG9.range Tryd.underlying30 rfl rfl _ rfl
    | exact results_cell_tmp rfl _ _ w.heap.size 0 [.int .i64 0, .int .i64 0] _ rfl HG.range Tryd.underlying30 rfl rfl _ rfl

set_option maxRecDepth 100000 in
set_option maxHeartbeats 2000000 in
theorem rSign_ok (x : Nat) (h1 : 1 ≤ x) (h2 : x < 2305843009213688669) (a : Option Addr) (cap : Nat) (l : List UInt8) (w : World) (hl : RdB w.heap.size w a l) (hcap : l.length ≤ cap) (hc2 : cap ≤ maxLen) (hnil : a = none → cap = 0) (hn : l.length ≤ 70368744100000) :
    Calls Tryd.prog 15 #[.int .i64 x, .slice a l.length cap] w fun e w' => e = .returned (.tuple #[sigV (rS x l : Nat) (sS x l : Nat), .int .i64 0]) ∧ Below w.heap.size w w' := by
  have k1 := fun w => rPublic_ok x h1 h2 w
  have k2 := fun w => refBytes x w
  have hnb := nonS_bd x l
  have k3 := fun w => hBase_any (nonS x l : Nat) w
  rw [base_pub _ hnb.2] at k3
  have hcb := chalS_bd (pubS x : Nat) (rS x l : Nat) l
  have k5 := fun w => rMul (hS x l) x hcb.2 h2 w
  have hml : hS x l * x % 2305843009213688669 < 2305843009213688669 := Nat.mod_lt _ (by decide)
  have k6 := fun w => rAdd (nonS x l) (hS x l * x % 2305843009213688669) hnb.2 hml w
  rw [show (nonS x l + hS x l * x % 2305843009213688669) % 2305843009213688669 = sS x l from rfl] at k6
  rw [show pubS (nonS x l) = rS x l from rfl] at k3
  have k4 : ∀ (w' : World), Below w.heap.size w w' → Calls Tryd.prog 38 #[.int .i64 (pubS x : Nat), .int .i64 (rS x l : Nat), .slice a l.length cap] w' fun e w'' => e = .returned (.int .i64 (hS x l : Nat)) ∧ Below w'.heap.size w' w'' := fun w' h => rchal (pubS x : Nat) (rS x l : Nat) a cap l w' ((hl.below h).mono h.size) hcap hc2 hnil hn
  have kR : ∀ (w' : World), Below w.heap.size w w' → RdB w'.heap.size w' a l := fun w' h => (hl.below h).mono h.size
  have HL2 : Hid ((be8 x).length + l.length ≤ 140737488355328) := by show _ ≤ _; rw [be8_len]; omega
  obtain ⟨X, hX⟩ : ∃ X, X = be8 x ++ l := ⟨_, rfl⟩
  have HX := Lib.hid hX
  have HLX : Hid (X.length ≤ 70368744177000) := Lib.hid (by rw [hX, List.length_append, be8_len]; omega)
  have HK : Hid (scalS (tagS (ByteArray.mk #[110, 111, 110, 99, 101]).data.toList X) = nonS x l) := Lib.hid (by rw [hX]; unfold nonS tagNonce; simp only [List.toList_toArray])
  have HNIL := Lib.hid hnil
  have HKR := Lib.hid kR
  clear hX hl hnil hcb hnb hml kR
  generalize pubS x = p at *
  generalize hS x l * x % 2305843009213688669 = m at *
  generalize hS x l = h at *
  generalize sS x l = s at *
  generalize rS x l = r at *
  generalize nonS x l = n at *
  obtain ⟨q, hq⟩ : ∃ q, l.length = q := ⟨_, rfl⟩
  have HQ := Lib.hid hq
  rw [hq] at k4 hcap hn ⊢
  clear hq
  have HB0 := Below.refl w.heap.size w
  have HB : Below w.heap.size w (w.alloc (.cells #[.int .i64 0, .int .i64 0] 30)) := HB0.alloc (Nat.le_refl _) _
  have HG := SG.new w 0 0
  go_enter Tryd.func15, Tryd.ntmps15
  go_wp2_with (first
    | (go_at_call 13; with_reducible refine (k1 _).mono ?_; rintro e w1 ⟨rfl, hw⟩; rw [hw]; clear hw w1 k1)
    | (go_at_call 36; with_reducible refine (k2 _).mono ?_; rintro e w2 ⟨v2, rfl, ho2, hb⟩; have HG2 := Lib.hid (HG.call hb); have HB2 := Lib.hid (HB.trans (hb.mono HB.size)); have HS2 : Hid (w.heap.size + 1 ≤ w2.heap.size) := Lib.hid (by have := hb.size; simpa using this); obtain ⟨a2, cap2, rfl, _, _⟩ := ho2.form; rw [World.size_alloc] at ho2; have HO2 := Lib.hid ho2; have HR2 := Lib.hid (HKR.out _ HB2.out); clear hb ho2 k2 HG HB)
    | ((with_reducible show wpList _ _ _ (({ dst := some 27, op := _, type := _, pos := _, after := _, guard := _ } : Oper) :: _) _ _); go_must (refine wpList_appB rfl (.tmp 25) (.tmp 26) rfl (w.heap.size + 1) _ (be8 x) l a cap rfl HO2.out (by rw [HQ.out]; rfl) HR2.out HNIL.out HL2.out HS2.out ?_)))
  intro v3 w3 ho3 hg3
  rw [← HX.out] at ho3
  obtain ⟨a3, cap3, rfl, _, _⟩ := ho3.form
  have HO3 := Lib.hid ho3
  have HB3 := Lib.hid (HB2.out.trans (hg3.below (fun k hk => by have := HO2.out.base k hk; omega) HB2.out.size))
  have HG3 := Lib.hid (HG2.out.grew hg3 (fun e => by have := HO2.out.base _ e; omega))
  clear ho3 hg3 HO2 HB2 HG2 HR2 HS2 HL2
  have cS := hScalar (ByteArray.mk #[110, 111, 110, 99, 101]) a3 cap3 X w3 HO3.out.rdOf HO3.out.caps.1 HO3.out.caps.2 HO3.out.nilCap (by decide) HLX.out
  rw [HK.out] at cS
  have HCS := Lib.hid cS
  have HB := HB3.out
  have HG := HG3.out
  clear cS HB3 HG3
  generalize X.length = ml at *
  go_wp2_with (first
    | (go_at_call 35; refine HCS.out.mono ?_; rintro e w4 ⟨rfl, hb⟩; replace HB := HB.trans (hb.mono HB.size); replace HG := HG.call hb; clear hb HCS HO3)
    | (go_at_call 31; with_reducible refine (k3 _).mono ?_; rintro e w5 ⟨rfl, hw⟩; rw [hw]; clear hw w5 k3)
    | (go_at_call 38; with_reducible refine (k4 _ HB).mono ?_; rintro e w6 ⟨rfl, hb⟩; replace HB := HB.trans (hb.mono HB.size); replace HG := HG.call hb; clear hb k4)
    | (go_at_call 37; with_reducible refine (k5 _).mono ?_; rintro e w7 ⟨rfl, hw⟩; rw [hw]; clear hw w7 k5)
    | (go_at_call 39; with_reducible refine (k6 _).mono ?_; rintro e w8 ⟨rfl, hw⟩; rw [hw]; clear hw w8 k6; have c0 := HG.cell0; have f0 := HG.frozen 0; have c1 := HG.cell1; have f1 := HG.frozen 1))
  have HG9 := (HG.set0 (r : Int)).set1 (s : Int)
  have HB9 := (HB.setCell (p := ⟨w.heap.size, 0, none⟩) (Nat.le_refl _) (.int .i64 (r : Int))).setCell (p := ⟨w.heap.size, 1, none⟩) (Nat.le_refl _) (.int .i64 (s : Int))
  refine bodyPost_ret (v := .tuple #[sigV r s, .int .i64 0]) ?_ rfl ⟨rfl, HB9⟩
  exact results_cell_tmp rfl _ _ w.heap.size 0 [.int .i64 r, .int .i64 s] _ rfl HG9.range Tryd.underlying30 rfl rfl _ rfl

set_option maxRecDepth 100000 in
set_option maxHeartbeats 4000000 in
theorem rVerify (pub r s : Int) (a : Option Addr) (cap : Nat) (l : List UInt8) (w : World) (hl : RdB w.heap.size w a l) (hcap : l.length ≤ cap) (hc2 : cap ≤ maxLen) (hnil : a = none → cap = 0) (hn : l.length ≤ 70368744100000) :
    Calls Tryd.prog 17 #[.int .i64 pub, .slice a l.length cap, sigV r s] w fun e w' => e = .returned (.bool (verD pub l r s)) ∧ Below w.heap.size w w' := by
  have k1 := fun w => hCheck_any pub w
  have k2 := fun w => hCheck_any r w
  have k3 := fun w => scalar_any s w
  rw [chkR_elB] at k1 k2
  have HB : Below w.heap.size w (w.alloc (.cells #[.int .i64 r, .int .i64 s] 30)) := (Below.refl _ _).alloc (Nat.le_refl _) _
  have HG := SG.new w r s
  unfold sigV
  rw [verD_eq]
  cases h1 : elB pub <;> rw [h1] at k1
  · clear hl hnil hc2 hcap hn
    go_enter Tryd.func17, Tryd.ntmps17
    go_wp2_with (first
      | (go_at_call 44; with_reducible refine (k1 _).mono ?_; rintro e w1 ⟨rfl, hw⟩; rw [hw]; clear hw w1 k1))
    go_ret
    exact ⟨rfl, HB⟩
  cases h2 : elB r <;> rw [h2] at k2
  · clear hl hnil hc2 hcap hn
    go_enter Tryd.func17, Tryd.ntmps17
    go_wp2_with (first
      | (go_at_call 44; with_reducible refine (k1 _).mono ?_; rintro e w1 ⟨rfl, hw⟩; rw [hw]; clear hw w1 k1)
      | (go_at_call 44; with_reducible refine (k2 _).mono ?_; rintro e w1 ⟨rfl, hw⟩; rw [hw]; clear hw w1 k2))
    go_ret
    exact ⟨rfl, HB⟩
  cases h3 : scal s <;> rw [h3] at k3
  · clear hl hnil hc2 hcap hn
    go_enter Tryd.func17, Tryd.ntmps17
    go_wp2_with (first
      | (go_at_call 44; with_reducible refine (k1 _).mono ?_; rintro e w1 ⟨rfl, hw⟩; rw [hw]; clear hw w1 k1)
      | (go_at_call 44; with_reducible refine (k2 _).mono ?_; rintro e w1 ⟨rfl, hw⟩; rw [hw]; clear hw w1 k2)
      | (go_at_call 45; with_reducible refine (k3 _).mono ?_; rintro e w1 ⟨rfl, hw⟩; rw [hw]; clear hw w1 k3))
    go_ret
    exact ⟨rfl, HB⟩
  rw [elB_iff] at h1 h2
  rw [scal_iff] at h3
  obtain ⟨p, rfl, -⟩ := h1.nat
  obtain ⟨q, rfl, -⟩ := h2.nat
  obtain ⟨t, rfl⟩ : ∃ t : Nat, s = (t : Int) := ⟨s.toNat, by omega⟩
  rw [Int.toNat_natCast, Int.toNat_natCast, Int.toNat_natCast]
  have ht : t < 2305843009213688669 := by omega
  have hch := chalS_bd p q l
  have hpw := isEl_of (modP_lt (p ^ chalS p q l)) (El.pow (by have := h1.2.2; rwa [Int.toNat_natCast] at this) (chalS p q l))
  have k4 := fun w => hBase_any t w
  rw [base_pub t ht] at k4
  have k5 : ∀ (w' : World), Below w.heap.size w w' → Calls Tryd.prog 38 #[.int .i64 p, .int .i64 q, .slice a l.length cap] w' fun e w'' => e = .returned (.int .i64 (chalS p q l : Nat)) ∧ Below w'.heap.size w' w'' := fun w' h => rchal p q a cap l w' ((hl.below h).mono h.size) hcap hc2 hnil hn
  have k6 := fun w => hExp_any p (chalS p q l) w
  rw [expR_ok h1 hch.2] at k6
  have k7 := fun w => hMul_any q (p ^ chalS p q l % 4611686018427377339 : Nat) w
  rw [mulR_ok h2 hpw] at k7
  have hb : balB p q t l = (((pubS t : Nat) : Int) == ((q * (p ^ chalS p q l % 4611686018427377339) % 4611686018427377339 : Nat) : Int)) := by
    unfold balB; rw [Bool.eq_iff_iff, decide_eq_true_eq, beq_iff_eq]; omega
  rw [hb]
  clear hb h1 h2 h3 hpw hch hl hnil hc2
  generalize q * (p ^ chalS p q l % 4611686018427377339) % 4611686018427377339 = y at *
  generalize p ^ chalS p q l % 4611686018427377339 = z at *
  generalize chalS p q l = h at *
  generalize pubS t = x at *
  generalize l.length = m at *
  go_enter Tryd.func17, Tryd.ntmps17
  go_wp2_with (first
    | (go_at_call 44; with_reducible refine (k1 _).mono ?_; rintro e w1 ⟨rfl, hw⟩; rw [hw]; clear hw w1 k1)
    | (go_at_call 44; with_reducible refine (k2 _).mono ?_; rintro e w1 ⟨rfl, hw⟩; rw [hw]; clear hw w1 k2)
    | (go_at_call 45; with_reducible refine (k3 _).mono ?_; rintro e w1 ⟨rfl, hw⟩; rw [hw]; clear hw w1 k3)
    | (go_at_call 31; with_reducible refine (k4 _).mono ?_; rintro e w1 ⟨rfl, hw⟩; rw [hw]; clear hw w1 k4)
    | (go_at_call 38; with_reducible refine (k5 _ HB).mono ?_; rintro e w6 ⟨rfl, hb⟩; replace HB := HB.trans (hb.mono HB.size); replace HG := HG.call hb; have c0 := HG.cell0; clear hb k5)
    | (go_at_call 46; with_reducible refine (k6 _).mono ?_; rintro e w1 ⟨rfl, hw⟩; rw [hw]; clear hw w1 k6)
    | (go_at_call 47; with_reducible refine (k7 _).mono ?_; rintro e w1 ⟨rfl, hw⟩; rw [hw]; clear hw w1 k7))
  go_ret
  exact ⟨by simp, HB⟩
end Go.Proofs.YtgpcbckpfnhhcaaDoor
