/-
  Package field: values of polynomials; its functions, and the reference's.
-/
import Derived.Test.YtpoclogglenhnaaFp
namespace Go.Proofs.Ytpoclogglenhnaa
open Go.RowKit
set_option linter.unusedVariables false
set_option linter.unusedSimpArgs false

/-- The value of a polynomial, by Horner's way. -/
def evQ (x : Nat) (l : List Int) : Nat := l.foldr (fun c y => (y * x % 2305843009213688669 + c.toNat) % 2305843009213688669) 0
theorem evQ_cons (x : Nat) (c : Int) (l : List Int) : evQ x (c :: l) = (evQ x l * x % 2305843009213688669 + c.toNat) % 2305843009213688669 := rfl
theorem evQ_lt (x : Nat) (l : List Int) : evQ x l < 2305843009213688669 := by
  cases l with
  | nil => exact Nat.zero_lt_succ _
  | cons c l => exact Nat.mod_lt _ (by decide)

set_option maxHeartbeats 800000 in
theorem value_any (a : Option Addr) (cap : Nat) (l : List Int) (x : Nat) (hx : x < 2305843009213688669) (hs : ∀ c ∈ l, scal c = true) (w : World) (hl : RdI w a l) :
    Calls Try.prog 39 #[.slice a l.length cap, .int .i64 x] w fun e w' => e = .returned (.int .i64 (evQ x l : Nat)) ∧ ∃ k, w' = w.drewN k := by
  have hm := hl.1
  unfold maxLen at hm
  have c1 := wrapI ((l.length : Int) - 1) (by omega) (by omega)
  have HL := Lib.hid hl
  have HS := Lib.hid hs
  clear hl hs
  go_enter Try.func39, Try.ntmps39
  go_wp2_with fail
  go_loopw [4, 5] (fun y i wr => ∃ j : Nat, j ≤ l.length ∧ i = .int .i64 ((j : Int) - 1) ∧ y = .int .i64 (evQ x (l.drop j) : Nat) ∧ ∃ k, wr = w.drewN k) (fun _ i _ => (intOf i + 1).toNat)
  case atStart => exact ⟨l.length, Nat.le_refl _, rfl, by rw [List.drop_length]; rfl, 0, rfl⟩
  case round =>
    obtain ⟨j, hj, rfl, rfl, hk⟩ := hrel
    have HK := Lib.hid hk
    clear hk
    by_cases h0 : j = 0
    · subst h0
      have f1 : decide ((0 : Int) ≤ ((0 : Nat) : Int) - 1) = false := by decide
      go_wp2_with fail
      go_ret
      exact ⟨rfl, HK.out⟩
    · obtain ⟨i, rfl⟩ : ∃ i, j = i + 1 := ⟨j - 1, by omega⟩
      have hi : i < l.length := by omega
      have f1 : decide ((0 : Int) ≤ ((i + 1 : Nat) : Int) - 1) = true := decide_eq_true (by omega)
      have e1 : ((i + 1 : Nat) : Int) - 1 = (i : Int) := by omega
      have d1 := wrapI ((i : Int) - 1) (by omega) (by omega)
      have hd : evQ x (l.drop i) = (evQ x (l.drop (i + 1)) * x % 2305843009213688669 + (l.getD i 0).toNat) % 2305843009213688669 := by
        rw [List.drop_eq_getElem_cons hi, evQ_cons]; simp [hi]
      have hy := evQ_lt x (l.drop (i + 1))
      obtain ⟨p, ha, hc⟩ : ∃ p, a = some p ∧ w.cell? (p.add i) = some (.int .i64 (l.getD i 0)) := by
        rcases HL.out.2 with h | ⟨p, ha, hp⟩
        · subst h; exact absurd hi (Nat.not_lt_zero _)
        · exact ⟨p, ha, by rw [hp i hi]; simp [hi]⟩
      subst ha
      have hsc := scal_of (HS.out (l.getD i 0) (by simp [hi]))
      obtain ⟨c, hcd⟩ : ∃ c : Nat, l.getD i 0 = (c : Int) := ⟨(l.getD i 0).toNat, by omega⟩
      rw [hcd] at hc hsc hd
      rw [Int.toNat_natCast] at hd
      have hcl : c < 2305843009213688669 := by omega
      have HD := Lib.hid hd
      clear hcd hsc hd
      generalize evQ x (l.drop (i + 1)) = y at *
      have hc' : wr.cell? (p.add i) = some (.int .i64 (c : Int)) := by obtain ⟨k, rfl⟩ := HK.out; exact hc
      have hm2 : y * x % 2305843009213688669 < 2305843009213688669 := Nat.mod_lt _ (by decide)
      rw [e1]
      rw [e1] at f1
      go_wp2_with fail
      go_quiet (first
        | (go_at_call 34; exact Calls.quiet_of (product_any _ _ hy hx _))
        | (go_at_call 30; exact Calls.quiet_of_same (sum_any _ _ hm2 hcl _)))
      go_wp2_with fail
      go_roundw
      case rel => exact ⟨i, by omega, rfl, by rw [HD.out], by obtain ⟨k, rfl⟩ := HK.out; exact ⟨k + nq, by rw [World.drewN_drewN]⟩⟩
      case measure => simp [intOf]

theorem check_cells (g : Nat) (l : List Int) (w : World) (hl : l.length ≤ 3) (hc : ∀ j (h : j < l.length), w.cell? ⟨g, j, none⟩ = some (.int .i64 l[j])) :
    Calls Try.prog 29 #[.slice (some ⟨g, 0, none⟩) l.length l.length] w fun e w' => e = .returned (.int .i64 (if l.all scal then 0 else 1)) ∧ w' = w :=
  check_any _ _ l w ⟨by unfold maxLen; omega, .inr ⟨_, rfl, fun j h => by rw [← hc j h]; congr 1; simp [Addr.add]; rintro rfl; rfl⟩⟩

theorem check1 (g : Nat) (a : Int) (w : World) (h0 : w.cell? ⟨g, 0, none⟩ = some (.int .i64 a)) :
    Calls Try.prog 29 #[.slice (some ⟨g, 0, none⟩) 1 1] w fun e w' => e = .returned (.int .i64 (if scal a then 0 else 1)) ∧ w' = w := by
  have h := check_cells g [a] w (by simp) (fun j hj => by
    obtain rfl : j = 0 := by simpa using hj
    exact h0)
  simpa using h
theorem check2 (g : Nat) (a b : Int) (w : World) (h0 : w.cell? ⟨g, 0, none⟩ = some (.int .i64 a)) (h1 : w.cell? ⟨g, 1, none⟩ = some (.int .i64 b)) :
    Calls Try.prog 29 #[.slice (some ⟨g, 0, none⟩) 2 2] w fun e w' => e = .returned (.int .i64 (if scal a && scal b then 0 else 1)) ∧ w' = w := by
  have h := check_cells g [a, b] w (by simp) (fun j hj => by
    have hj : j < 2 := hj
    match j, hj with
    | 0, _ => exact h0
    | 1, _ => exact h1)
  simpa using h
theorem check1_ok (g : Nat) (a : Nat) (ha : a < 2305843009213688669) (w : World) (h0 : w.cell? ⟨g, 0, none⟩ = some (.int .i64 a)) :
    Calls Try.prog 29 #[.slice (some ⟨g, 0, none⟩) 1 1] w fun e w' => e = .returned (.int .i64 0) ∧ w' = w := by
  have h := check1 g a w h0
  rw [scal_nat ha] at h; exact h
theorem check1_bad (g : Nat) (a : Int) (ha : scal a = false) (w : World) (h0 : w.cell? ⟨g, 0, none⟩ = some (.int .i64 a)) :
    Calls Try.prog 29 #[.slice (some ⟨g, 0, none⟩) 1 1] w fun e w' => e = .returned (.int .i64 1) ∧ w' = w := by
  have h := check1 g a w h0
  rw [ha] at h; exact h
theorem check2_ok (g : Nat) (a b : Nat) (ha : a < 2305843009213688669) (hb : b < 2305843009213688669) (w : World) (h0 : w.cell? ⟨g, 0, none⟩ = some (.int .i64 a)) (h1 : w.cell? ⟨g, 1, none⟩ = some (.int .i64 b)) :
    Calls Try.prog 29 #[.slice (some ⟨g, 0, none⟩) 2 2] w fun e w' => e = .returned (.int .i64 0) ∧ w' = w := by
  have h := check2 g a b w h0 h1
  rw [scal_nat ha, scal_nat hb] at h; exact h
theorem check2_bad (g : Nat) (a b : Int) (hab : (scal a && scal b) = false) (w : World) (h0 : w.cell? ⟨g, 0, none⟩ = some (.int .i64 a)) (h1 : w.cell? ⟨g, 1, none⟩ = some (.int .i64 b)) :
    Calls Try.prog 29 #[.slice (some ⟨g, 0, none⟩) 2 2] w fun e w' => e = .returned (.int .i64 1) ∧ w' = w := by
  have h := check2 g a b w h0 h1
  rw [hab] at h; exact h

theorem fCheck (a : Int) (w : World) :
    Calls Try.prog 17 #[.int .i64 a] w fun e w' => e = .returned (.int .i64 (if scal a then 0 else 1)) ∧ Below w.heap.size w w' := by
  obtain ⟨G, hG⟩ : ∃ G : Int, (if scal a = true then 0 else 1) = G := ⟨_, rfl⟩
  rw [hG]
  have h := fun (w : World) h0 => check1 w.heap.size a (w.alloc (.cells #[.int .i64 a] 3)) h0
  rw [hG] at h
  clear hG
  go_enter Try.func17, Try.ntmps17
  go_wp2_with (go_at_call 29; refine (h _ (by simp)).mono ?_; rintro e w' ⟨rfl, hw⟩; rw [hw]; clear hw w')
  go_ret
  exact ⟨rfl, (Below.refl _ _).alloc (Nat.le_refl _) _⟩

theorem fAdd (a b : Nat) (ha : a < 2305843009213688669) (hb : b < 2305843009213688669) (w : World) :
    Calls Try.prog 11 #[.int .i64 a, .int .i64 b] w fun e w' => e = .returned (.tuple #[.int .i64 (((a + b) % 2305843009213688669 : Nat) : Int), .int .i64 0]) ∧ Below w.heap.size w w' := by
  go_enter Try.func11, Try.ntmps11
  go_wp2_with (first
    | (go_at_call 29; refine (check2_ok _ _ _ ha hb _ (by simp) (by simp)).mono ?_; rintro e w' ⟨rfl, hw⟩; rw [hw]; clear hw w')
    | (go_at_call 30; refine (sum_any _ _ ha hb _).mono ?_; rintro e w' ⟨rfl, hw⟩; rw [hw]; clear hw w'))
  go_ret2
  exact ⟨rfl, (Below.refl _ _).alloc (Nat.le_refl _) _⟩
theorem fAdd_bad (a b : Int) (hab : (scal a && scal b) = false) (w : World) :
    Calls Try.prog 11 #[.int .i64 a, .int .i64 b] w fun e w' => e = .returned (.tuple #[.int .i64 0, .int .i64 1]) ∧ Below w.heap.size w w' := by
  go_enter Try.func11, Try.ntmps11
  go_wp2_with (go_at_call 29; refine (check2_bad _ _ _ hab _ (by simp) (by simp)).mono ?_; rintro e w' ⟨rfl, hw⟩; rw [hw]; clear hw w')
  go_ret2
  exact ⟨rfl, (Below.refl _ _).alloc (Nat.le_refl _) _⟩

theorem fSub (a b : Nat) (ha : a < 2305843009213688669) (hb : b < 2305843009213688669) (w : World) :
    Calls Try.prog 13 #[.int .i64 a, .int .i64 b] w fun e w' => e = .returned (.tuple #[.int .i64 ((dif a b : Nat) : Int), .int .i64 0]) ∧ Below w.heap.size w w' := by
  go_enter Try.func13, Try.ntmps13
  go_wp2_with (first
    | (go_at_call 29; refine (check2_ok _ _ _ ha hb _ (by simp) (by simp)).mono ?_; rintro e w' ⟨rfl, hw⟩; rw [hw]; clear hw w')
    | (go_at_call 33; refine (dif_any _ _ ha hb _).mono ?_; rintro e w' ⟨rfl, hw⟩; rw [hw]; clear hw w'))
  go_ret2
  exact ⟨rfl, (Below.refl _ _).alloc (Nat.le_refl _) _⟩
theorem fSub_bad (a b : Int) (hab : (scal a && scal b) = false) (w : World) :
    Calls Try.prog 13 #[.int .i64 a, .int .i64 b] w fun e w' => e = .returned (.tuple #[.int .i64 0, .int .i64 1]) ∧ Below w.heap.size w w' := by
  go_enter Try.func13, Try.ntmps13
  go_wp2_with (go_at_call 29; refine (check2_bad _ _ _ hab _ (by simp) (by simp)).mono ?_; rintro e w' ⟨rfl, hw⟩; rw [hw]; clear hw w')
  go_ret2
  exact ⟨rfl, (Below.refl _ _).alloc (Nat.le_refl _) _⟩

theorem fMul (a b : Nat) (ha : a < 2305843009213688669) (hb : b < 2305843009213688669) (w : World) :
    Calls Try.prog 15 #[.int .i64 a, .int .i64 b] w fun e w' => e = .returned (.tuple #[.int .i64 ((a * b % 2305843009213688669 : Nat) : Int), .int .i64 0]) ∧ Below w.heap.size w w' := by
  go_enter Try.func15, Try.ntmps15
  go_wp2_with (first
    | (go_at_call 29; refine (check2_ok _ _ _ ha hb _ (by simp) (by simp)).mono ?_; rintro e w' ⟨rfl, hw⟩; rw [hw]; clear hw w')
    | (go_at_call 34; refine (product_any _ _ ha hb _).mono ?_; rintro e w' ⟨rfl, k, hw⟩; rw [hw]; clear hw w'))
  go_ret2
  exact ⟨rfl, below_drewN ((Below.refl _ _).alloc (Nat.le_refl _) _) _⟩
theorem fMul_bad (a b : Int) (hab : (scal a && scal b) = false) (w : World) :
    Calls Try.prog 15 #[.int .i64 a, .int .i64 b] w fun e w' => e = .returned (.tuple #[.int .i64 0, .int .i64 1]) ∧ Below w.heap.size w w' := by
  go_enter Try.func15, Try.ntmps15
  go_wp2_with (go_at_call 29; refine (check2_bad _ _ _ hab _ (by simp) (by simp)).mono ?_; rintro e w' ⟨rfl, hw⟩; rw [hw]; clear hw w')
  go_ret2
  exact ⟨rfl, (Below.refl _ _).alloc (Nat.le_refl _) _⟩

theorem inverse_any (a : Nat) (ha : a < 2305843009213688669) (w : World) :
    Calls Try.prog 36 #[.int .i64 a] w fun e w' => e = .returned (.int .i64 ((a ^ (kQ - 1) % 2305843009213688669 : Nat) : Int)) ∧ Below w.heap.size w w' := by
  have h := fun w => power_any a (kQ - 1) ha (by unfold kQ; omega) w
  have e : ((kQ - 1 : Nat) : Int) = 2305843009213688667 := by unfold kQ; rfl
  rw [e] at h
  generalize a ^ (kQ - 1) % 2305843009213688669 = r at *
  go_enter Try.func36, Try.ntmps36
  go_wp2_with (go_at_call 38; refine (h _).mono ?_; rintro e w' ⟨rfl, hb⟩)
  go_ret
  exact ⟨rfl, hb⟩

theorem fInv (a : Nat) (h0 : a ≠ 0) (ha : a < 2305843009213688669) (w : World) :
    Calls Try.prog 19 #[.int .i64 a] w fun e w' => e = .returned (.tuple #[.int .i64 ((a ^ (kQ - 1) % 2305843009213688669 : Nat) : Int), .int .i64 0]) ∧ Below w.heap.size w w' := by
  have h := inverse_any a ha
  have f1 : ((a : Int) == 0) = false := by simp; omega
  generalize a ^ (kQ - 1) % 2305843009213688669 = r at *
  go_enter Try.func19, Try.ntmps19
  go_wp2_with (first
    | (go_at_call 29; refine (check1_ok _ _ ha _ (by simp)).mono ?_; rintro e w' ⟨rfl, hw⟩; rw [hw]; clear hw w')
    | (go_at_call 36; refine (h _).mono ?_; rintro e w' ⟨rfl, hb⟩))
  go_ret2
  exact ⟨rfl, ((Below.refl _ _).alloc (Nat.le_refl _) _).trans (hb.mono (by simp))⟩
theorem fInv_zero (w : World) :
    Calls Try.prog 19 #[.int .i64 0] w fun e w' => e = .returned (.tuple #[.int .i64 0, .int .i64 30]) ∧ Below w.heap.size w w' := by
  go_enter Try.func19, Try.ntmps19
  go_wp2_with (go_at_call 29; refine (check1_ok _ 0 (by decide) _ (by simp)).mono ?_; rintro e w' ⟨rfl, hw⟩; rw [hw]; clear hw w')
  go_ret2
  exact ⟨rfl, (Below.refl _ _).alloc (Nat.le_refl _) _⟩
theorem fInv_bad (a : Int) (ha : scal a = false) (w : World) :
    Calls Try.prog 19 #[.int .i64 a] w fun e w' => e = .returned (.tuple #[.int .i64 0, .int .i64 1]) ∧ Below w.heap.size w w' := by
  go_enter Try.func19, Try.ntmps19
  go_wp2_with (go_at_call 29; refine (check1_bad _ _ ha _ (by simp)).mono ?_; rintro e w' ⟨rfl, hw⟩; rw [hw]; clear hw w')
  go_ret2
  exact ⟨rfl, (Below.refl _ _).alloc (Nat.le_refl _) _⟩

theorem fPow (a n : Nat) (ha : a < 2305843009213688669) (hn : n < 9223372036854775808) (w : World) :
    Calls Try.prog 21 #[.int .i64 a, .int .i64 n] w fun e w' => e = .returned (.tuple #[.int .i64 ((a ^ n % 2305843009213688669 : Nat) : Int), .int .i64 0]) ∧ Below w.heap.size w w' := by
  have h := power_any a n ha hn
  have f1 : decide ((n : Int) < 0) = false := decide_eq_false (by omega)
  generalize a ^ n % 2305843009213688669 = r at *
  go_enter Try.func21, Try.ntmps21
  go_wp2_with (first
    | (go_at_call 29; refine (check1_ok _ _ ha _ (by simp)).mono ?_; rintro e w' ⟨rfl, hw⟩; rw [hw]; clear hw w')
    | (go_at_call 38; refine (h _).mono ?_; rintro e w' ⟨rfl, hb⟩))
  go_ret2
  exact ⟨rfl, ((Below.refl _ _).alloc (Nat.le_refl _) _).trans (hb.mono (by simp))⟩
theorem fPow_neg (a : Nat) (n : Int) (ha : a < 2305843009213688669) (hn : n < 0) (w : World) :
    Calls Try.prog 21 #[.int .i64 a, .int .i64 n] w fun e w' => e = .returned (.tuple #[.int .i64 0, .int .i64 1]) ∧ Below w.heap.size w w' := by
  have f1 : decide (n < 0) = true := decide_eq_true hn
  go_enter Try.func21, Try.ntmps21
  go_wp2_with (go_at_call 29; refine (check1_ok _ _ ha _ (by simp)).mono ?_; rintro e w' ⟨rfl, hw⟩; rw [hw]; clear hw w')
  go_ret2
  exact ⟨rfl, (Below.refl _ _).alloc (Nat.le_refl _) _⟩
theorem fPow_bad (a n : Int) (ha : scal a = false) (w : World) :
    Calls Try.prog 21 #[.int .i64 a, .int .i64 n] w fun e w' => e = .returned (.tuple #[.int .i64 0, .int .i64 1]) ∧ Below w.heap.size w w' := by
  go_enter Try.func21, Try.ntmps21
  go_wp2_with (go_at_call 29; refine (check1_bad _ _ ha _ (by simp)).mono ?_; rintro e w' ⟨rfl, hw⟩; rw [hw]; clear hw w')
  go_ret2
  exact ⟨rfl, (Below.refl _ _).alloc (Nat.le_refl _) _⟩

theorem checkL_ok (a : Option Addr) (cap : Nat) (l : List Int) (w : World) (hl : RdI w a l) (hs : ∀ c ∈ l, scal c = true) :
    Calls Try.prog 29 #[.slice a l.length cap] w fun e w' => e = .returned (.int .i64 0) ∧ w' = w := by
  have h := check_any a cap l w hl
  rw [List.all_eq_true.2 hs] at h; exact h
theorem checkL_bad (a : Option Addr) (cap : Nat) (l : List Int) (w : World) (hl : RdI w a l) (hs : l.all scal = false) :
    Calls Try.prog 29 #[.slice a l.length cap] w fun e w' => e = .returned (.int .i64 1) ∧ w' = w := by
  have h := check_any a cap l w hl
  rw [hs] at h; exact h
theorem RdI.alloc {w : World} {a : Option Addr} {l : List Int} (h : RdI w a l) (o : Obj) : RdI (w.alloc o) a l :=
  ⟨h.1, h.2.imp id fun ⟨x, ha, hc⟩ => ⟨x, ha, fun j hj => cellAlloc o (hc j hj)⟩⟩

theorem fEval (a : Option Addr) (cap : Nat) (l : List Int) (x : Nat) (hx : x < 2305843009213688669) (hs : ∀ c ∈ l, scal c = true) (w : World) (hl : RdI w a l) :
    Calls Try.prog 23 #[.slice a l.length cap, .int .i64 x] w fun e w' => e = .returned (.tuple #[.int .i64 (evQ x l : Nat), .int .i64 0]) ∧ Below w.heap.size w w' := by
  have k1 := checkL_ok a cap l w hl hs
  have k2 := value_any a cap l x hx hs _ (hl.alloc (.cells #[.int .i64 x] 3))
  have k3 := check1_ok w.heap.size x hx (w.alloc (.cells #[.int .i64 x] 3)) (by simp)
  have HS := Lib.hid hs
  have HL := Lib.hid hl
  clear hs hl
  generalize evQ x l = y at *
  go_enter Try.func23, Try.ntmps23
  go_wp2_with (first
    | (go_at_call 29; refine k1.mono ?_; clear k1; rintro e w' ⟨rfl, hw⟩; rw [hw]; clear hw w')
    | (go_at_call 29; refine k3.mono ?_; clear k3; rintro e w' ⟨rfl, hw⟩; rw [hw]; clear hw w')
    | (go_at_call 39; refine k2.mono ?_; clear k2; rintro e w' ⟨rfl, k, hw⟩; rw [hw]; clear hw w'))
  go_ret2
  exact ⟨rfl, below_drewN ((Below.refl _ _).alloc (Nat.le_refl _) _) _⟩
theorem fEval_bad1 (a : Option Addr) (cap : Nat) (l : List Int) (x : Int) (hs : l.all scal = false) (w : World) (hl : RdI w a l) :
    Calls Try.prog 23 #[.slice a l.length cap, .int .i64 x] w fun e w' => e = .returned (.tuple #[.int .i64 0, .int .i64 1]) ∧ Below w.heap.size w w' := by
  have k1 := checkL_bad a cap l w hl hs
  clear hs hl
  go_enter Try.func23, Try.ntmps23
  go_wp2_with (go_at_call 29; refine k1.mono ?_; rintro e w' ⟨rfl, hw⟩; rw [hw]; clear hw w')
  go_ret2
  exact ⟨rfl, Below.refl _ _⟩
theorem fEval_bad2 (a : Option Addr) (cap : Nat) (l : List Int) (x : Int) (hs : ∀ c ∈ l, scal c = true) (hx : scal x = false) (w : World) (hl : RdI w a l) :
    Calls Try.prog 23 #[.slice a l.length cap, .int .i64 x] w fun e w' => e = .returned (.tuple #[.int .i64 0, .int .i64 1]) ∧ Below w.heap.size w w' := by
  have k1 := checkL_ok a cap l w hl hs
  have k3 := check1_bad w.heap.size x hx (w.alloc (.cells #[.int .i64 x] 3)) (by simp)
  clear hs hl
  go_enter Try.func23, Try.ntmps23
  go_wp2_with (first
    | (go_at_call 29; refine k1.mono ?_; clear k1; rintro e w' ⟨rfl, hw⟩; rw [hw]; clear hw w')
    | (go_at_call 29; refine k3.mono ?_; clear k3; rintro e w' ⟨rfl, hw⟩; rw [hw]; clear hw w'))
  go_ret2
  exact ⟨rfl, (Below.refl _ _).alloc (Nat.le_refl _) _⟩
end Go.Proofs.Ytpoclogglenhnaa
