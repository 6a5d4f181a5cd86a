/-
  Package group: products modulo P; the reference's sums, products and powers modulo any number below 2^62.
  A range over a function that writes a variable of its own between the rounds, where no round leaves the loop; the bits of an exponent, the least significant one first.
  Package group's powers.
  Package group's functions, and the reference's: checks, products, inverses, powers.
-/
import Derived.Test.YteigldfdaciopaaGreatDoorPkN
import Derived.Test.YteigldfdaciopaaGreatDoorPkV
import Derived.Test.YteigldfdaciopaaGreatDoorPkF
import Derived.RangeFuncBox
set_option linter.unusedVariables false
set_option linter.unusedSimpArgs false
namespace Go.Proofs.YteigldfdaciopaaGreatDoor
open Go.RowKit
set_option linter.unusedVariables false
set_option linter.unusedSimpArgs false

theorem div64P_any (hi lo : Nat) (hhi : hi < 4611686018427377339) (hlo : lo < 18446744073709551616) (w : World) :
    Calls Tryz.prog 90 #[.int .u64 hi, .int .u64 lo, .int .u64 4611686018427377339] w fun e w' => (∃ q : Int, e = .returned (.tuple #[.int .u64 q, .int .u64 (((hi * 18446744073709551616 + lo) % 4611686018427377339 : Nat) : Int)])) ∧ ∃ k, w' = w.drewN k := by
  by_cases h0 : hi = 0
  · subst h0
    rw [Nat.zero_mul, Nat.zero_add]
    exact P.div64_zero lo hlo w
  · refine (P.div64_pos hi lo (by omega) hhi hlo w).mono ?_
    rintro e w' ⟨h, rfl⟩
    exact ⟨h, 0, rfl⟩

theorem rem64P_any (hi lo : Nat) (hhi : hi < 4611686018427377339) (hlo : lo < 18446744073709551616) (w : World) :
    Calls Tryz.prog 93 #[.int .u64 hi, .int .u64 lo, .int .u64 4611686018427377339] w fun e w' => e = .returned (.int .u64 (((hi * 18446744073709551616 + lo) % 4611686018427377339 : Nat) : Int)) ∧ ∃ k, w' = w.drewN k := by
  have c1 : IntKind.u64.wrap ((hi : Int).tmod 4611686018427377339) = (hi : Int) := by rw [Int.tmod_eq_emod_of_nonneg (by omega), wrapU _ (by omega) (by omega)]; omega
  have c2 : (hi : Int).tmod 4611686018427377339 = (hi : Int) := by rw [Int.tmod_eq_emod_of_nonneg (by omega)]; omega
  have HD := Lib.hid (fun w => div64P_any hi lo hhi hlo w)
  generalize (hi * 18446744073709551616 + lo) % 4611686018427377339 = r at *
  go_enter Tryz.func93, Tryz.ntmps93
  go_wp2_with (go_at_call 90; refine (HD.out _).mono ?_; rintro e w' ⟨⟨q, rfl⟩, k, hw⟩; rw [hw]; clear hw w')
  go_ret
  exact ⟨rfl, _, rfl⟩

theorem prodHiP {a b : Nat} (ha : a < 4611686018427377339) (hb : b < 4611686018427377339) : a * b / 18446744073709551616 < 4611686018427377339 := by
  have h : a * b ≤ 4611686018427377338 * 4611686018427377338 := Nat.mul_le_mul (by omega) (by omega)
  generalize a * b = x at *
  omega

theorem gprod_any (a b : Nat) (ha : a < 4611686018427377339) (hb : b < 4611686018427377339) (w : World) :
    Calls Tryz.prog 78 #[.int .i64 a, .int .i64 b] w fun e w' => e = .returned (.int .i64 ((a * b % 4611686018427377339 : Nat) : Int)) ∧ ∃ k, w' = w.drewN k := by
  have c1 := wrapU (a : Int) (by omega) (by omega)
  have c2 := wrapU (b : Int) (by omega) (by omega)
  have hh := prodHiP ha hb
  have hl : a * b % 18446744073709551616 < 18446744073709551616 := Nat.mod_lt _ (by decide)
  have he : a * b / 18446744073709551616 * 18446744073709551616 + a * b % 18446744073709551616 = a * b := Nat.div_add_mod' _ _
  have hr : a * b % 4611686018427377339 < 4611686018427377339 := Nat.mod_lt _ (by decide)
  have hm := Tryz.bits_Mul64 a b (by omega) (by omega)
  have HD := Lib.hid (fun w => rem64P_any _ _ hh hl w)
  rw [he] at HD
  have c3 := (wrapI ((a * b % 4611686018427377339 : Nat) : Int) (by omega) (by omega))
  clear he
  generalize a * b / 18446744073709551616 = hi at *
  generalize a * b % 18446744073709551616 = lo at *
  generalize a * b % 4611686018427377339 = r at *
  have HM := Lib.hid hm
  clear hm
  go_enter Tryz.func78, Tryz.ntmps78
  go_wp2_with (first
    | (go_at_call 89; refine (HM.out _).mono ?_; rintro e w' ⟨rfl, hw⟩; rw [hw]; clear hw w')
    | (go_at_call 93; refine (HD.out _).mono ?_; rintro e w' ⟨rfl, k, hw⟩; rw [hw]; clear hw w'))
  go_ret
  exact ⟨rfl, _, rfl⟩

theorem gsum_any (m a b : Nat) (hm : m < 4611686018427387904) (ha : a < m) (hb : b < m) (w : World) :
    Calls Tryz.prog 87 #[.int .i64 a, .int .i64 b, .int .i64 m] w fun e w' => e = .returned (.int .i64 (((a + b) % m : Nat) : Int)) ∧ w' = w := by
  have c1 := wrapI ((a : Int) + b) (by omega) (by omega)
  by_cases h : m ≤ a + b
  · have f1 : decide ((m : Int) ≤ (a : Int) + b) = true := decide_eq_true (by omega)
    have c2 := wrapI ((a : Int) + b - m) (by omega) (by omega)
    have c3 : (a : Int) + b - m = (((a + b) % m : Nat) : Int) := by
      rw [Nat.mod_eq_sub_mod h, Nat.mod_eq_of_lt (by omega)]; omega
    generalize (a + b) % m = r at *
    go_enter Tryz.func87, Tryz.ntmps87
    go_wp2_with fail
    go_ret
    exact ⟨by rw [← c3]; rfl, rfl⟩
  · have f1 : decide ((m : Int) ≤ (a : Int) + b) = false := decide_eq_false (by omega)
    have c3 : (a : Int) + b = (((a + b) % m : Nat) : Int) := by
      rw [Nat.mod_eq_of_lt (by omega)]; omega
    generalize (a + b) % m = r at *
    go_enter Tryz.func87, Tryz.ntmps87
    go_wp2_with fail
    go_ret
    exact ⟨by rw [← c3]; rfl, rfl⟩

set_option maxHeartbeats 800000 in
theorem grprod_any (m a b : Nat) (hm : m < 4611686018427387904) (ha : a < m) (hb : b < 9223372036854775808) (w : World) :
    Calls Tryz.prog 65 #[.int .i64 a, .int .i64 b, .int .i64 m] w fun e w' => e = .returned (.int .i64 ((a * b % m : Nat) : Int)) ∧ w' = w := by
  go_enter Tryz.func65, Tryz.ntmps65
  go_wp2_with fail
  go_loopw [0, 1, 7] (fun x y z wr => ∃ p q c : Nat, x = .int .i64 p ∧ y = .int .i64 q ∧ z = .int .i64 c ∧ p < m ∧ q < 9223372036854775808 ∧ c < m ∧ (c + p * q) % m = a * b % m ∧ wr = w) (fun _ y _ _ => (intOf y).toNat)
  case atStart => exact ⟨a, b, 0, rfl, rfl, rfl, ha, hb, by omega, by rw [Nat.zero_add], rfl⟩
  case round =>
    obtain ⟨p, q, c, rfl, rfl, rfl, hp, hq, hc, hi, hw⟩ := hrel
    subst hw
    by_cases h0 : q = 0
    · subst h0
      have e : c = a * b % m := by rw [← hi, Nat.mul_zero, Nat.add_zero, Nat.mod_eq_of_lt hc]
      clear hi
      go_wp2_with fail
      go_ret
      exact ⟨by rw [e]; rfl, rfl⟩
    · have f1 : decide ((0 : Int) < (q : Int)) = true := decide_eq_true (by omega)
      have hi' := step_prod (a := p) (b := q) (c := c) (n := m)
      rw [hi] at hi'
      have d1 : IntKind.i64.wrap ((q : Int).tdiv 2) = ((q / 2 : Nat) : Int) := by rw [Int.tdiv_eq_ediv_of_nonneg (by omega), wrapI _ (by omega) (by omega)]; omega
      have hpp : (p + p) % m < m := Nat.mod_lt _ (by omega)
      have hcc : (c + p) % m < m := Nat.mod_lt _ (by omega)
      have HI := Lib.hid hi'
      have hq2 : q / 2 < 9223372036854775808 := by clear hi hi'; omega
      clear hi hi'
      by_cases h1 : q % 2 = 1
      · have f2 : ((q : Int).tmod 2 == 1) = true := by rw [Int.tmod_eq_emod_of_nonneg (by omega)]; simp; omega
        go_wp2_with (go_at_call 87; refine (gsum_any _ _ _ hm (by assumption) (by assumption) _).mono ?_; rintro e w' ⟨rfl, hw⟩; rw [hw]; clear hw w')
        go_roundw
        case rel =>
          have h := HI.out
          rw [if_pos h1] at h
          exact ⟨_, q / 2, _, rfl, rfl, rfl, hpp, hq2, hcc, h, trivial⟩
        case measure => simp [intOf]; omega
      · have f2 : ((q : Int).tmod 2 == 1) = false := by rw [Int.tmod_eq_emod_of_nonneg (by omega)]; simp; omega
        go_wp2_with (go_at_call 87; refine (gsum_any _ _ _ hm (by assumption) (by assumption) _).mono ?_; rintro e w' ⟨rfl, hw⟩; rw [hw]; clear hw w')
        go_roundw
        case rel =>
          have h := HI.out
          rw [if_neg h1] at h
          exact ⟨_, q / 2, _, rfl, rfl, rfl, hpp, hq2, hc, h, trivial⟩
        case measure => simp [intOf]; omega

set_option maxHeartbeats 800000 in
theorem grpow_any (a b : Nat) (ha : a < 4611686018427377339) (hb : b < 9223372036854775808) (w : World) :
    Calls Tryz.prog 61 #[.int .i64 a, .int .i64 b] w fun e w' => e = .returned (.int .i64 ((a ^ b % 4611686018427377339 : Nat) : Int)) ∧ w' = w := by
  obtain ⟨G, hG⟩ : ∃ G, a ^ b % 4611686018427377339 = G := ⟨_, rfl⟩
  rw [hG]
  have H0 : Hid ((1 * a ^ b) % 4611686018427377339 = G) := Lib.hid (by rw [Nat.one_mul]; exact hG)
  clear hG
  have HP := Lib.hid (fun (p q : Nat) (hp : p < 4611686018427377339) (hq : q < 4611686018427377339) w => grprod_any 4611686018427377339 p q (by decide) hp (by omega) w)
  go_enter Tryz.func61, Tryz.ntmps61
  go_wp2_with fail
  go_loopw [0, 1, 5] (fun x y z wr => ∃ p q c : Nat, x = .int .i64 p ∧ y = .int .i64 q ∧ z = .int .i64 c ∧ p < 4611686018427377339 ∧ q < 9223372036854775808 ∧ c < 4611686018427377339 ∧ Hid ((c * p ^ q) % 4611686018427377339 = G) ∧ wr = w) (fun _ y _ _ => (intOf y).toNat)
  case atStart => exact ⟨a, b, 1, rfl, rfl, rfl, ha, hb, by omega, H0, rfl⟩
  case round =>
    obtain ⟨p, q, c, rfl, rfl, rfl, hp, hq, hc, hi, hw⟩ := hrel
    clear H0
    subst hw
    by_cases h0 : q = 0
    · subst h0
      have e : c = G := by have := hi.out; rw [Nat.pow_zero, Nat.mul_one, Nat.mod_eq_of_lt hc] at this; exact this
      clear hi
      subst e
      go_wp2_with fail
      go_ret
      exact ⟨rfl, rfl⟩
    · have f1 : decide ((0 : Int) < (q : Int)) = true := decide_eq_true (by omega)
      have d1 : IntKind.i64.wrap ((q : Int).tdiv 2) = ((q / 2 : Nat) : Int) := by rw [Int.tdiv_eq_ediv_of_nonneg (by omega), wrapI _ (by omega) (by omega)]; omega
      have HI := Lib.hid ((step_pow (a := p) (b := q) (c := c) (n := 4611686018427377339)).trans hi.out)
      clear hi
      have hpp : p * p % 4611686018427377339 < 4611686018427377339 := Nat.mod_lt _ (by decide)
      have hcc : c * p % 4611686018427377339 < 4611686018427377339 := Nat.mod_lt _ (by decide)
      have hq2 : q / 2 < 9223372036854775808 := by omega
      by_cases h1 : q % 2 = 1
      · have f2 : ((q : Int).tmod 2 == 1) = true := by rw [Int.tmod_eq_emod_of_nonneg (by omega)]; simp; omega
        go_wp2_with (go_at_call 65; refine (HP.out _ _ (by assumption) (by assumption) _).mono ?_; rintro e w' ⟨rfl, hw⟩; rw [hw]; clear hw w')
        go_roundw
        case rel =>
          have h := HI.out
          rw [if_pos h1] at h
          exact ⟨_, q / 2, _, rfl, rfl, rfl, hpp, hq2, hcc, h, trivial⟩
        case measure => simp [intOf]; omega
      · have f2 : ((q : Int).tmod 2 == 1) = false := by rw [Int.tmod_eq_emod_of_nonneg (by omega)]; simp; omega
        go_wp2_with (go_at_call 65; refine (HP.out _ _ (by assumption) (by assumption) _).mono ?_; rintro e w' ⟨rfl, hw⟩; rw [hw]; clear hw w')
        go_roundw
        case rel =>
          have h := HI.out
          rw [if_neg h1] at h
          exact ⟨_, q / 2, _, rfl, rfl, rfl, hpp, hq2, hc, h, trivial⟩
        case measure => simp [intOf]; omega
end Go.Proofs.YteigldfdaciopaaGreatDoor

namespace Go.Proofs.YteigldfdaciopaaGreatDoor
open Go.RowKit Go.Shelf
set_option linter.unusedVariables false
set_option linter.unusedSimpArgs false
attribute [local go_sem] Oper.semAt_some

/-- What a function that is ranged over does, where it keeps its place in the box Bn: it yields a list that fits Sx, and what the rounds keep is also kept by stores into the box. -/
def SeqBox {α : Type} (F : Fence) (n : Nat) (P : Program) (g : Nat) (lb : Array Value) (encs : α → Array Value) (Bn : Nat) (t : TypeId) (v0 : Value) (Sx : List α → Prop) (N : Nat) : Prop :=
  ∀ (l : Nat) (J : List α → World → Prop),
    (∀ pre W v, J pre W → J pre (W.setCell ⟨Bn, 0, none⟩ v)) →
    (∀ pre x W, J pre W → pre.length < N → YieldAt F (n - 1) P l (encs x) W fun e W' => e = .returned (.bool true) ∧ J (pre ++ [x]) W' ∧ ∀ v, Boxed W Bn t v → Boxed W' Bn t v) →
    ∀ W, Boxed W Bn t v0 → J [] W →
    CallsIn F n P g (#[.func (.yield l) #[] #[]] ++ lb) W fun e W' => (∃ v, e = .returned v) ∧ ∃ ys, Sx ys ∧ J ys W'

theorem heap_set {W : World} {b k : Nat} (v : Value) (h : k ≠ b) : (W.setCell ⟨b, 0, none⟩ v).heap[k]? = W.heap[k]? := Below.heap_setCell W ⟨b, 0, none⟩ v k h

/-- The loop over such a function, whose body always goes on. -/
theorem range_box {F : Fence} {n : Nat} {P : Program} {α : Type} {g : Operand} {ps : Array Tmp} {assign body : Code} {Q : Exit → Act → World → Prop} {a : Act} {w : World}
    (hro : F.round = none) (h1 : 1 ≤ n) {gf : Nat} {lb : Array Value} (hg : a.eval g = .func (.func gf) #[] lb) (hF : F.fn gf) (eg : ∀ args w, (callFunc gf args).run P w = .ok (.enter gf args) w)
    {encs : α → Array Value} {Bn : Nat} {t : TypeId} {v0 : Value} {Sx : List α → Prop} {N : Nat} (hs : SeqBox F (n - 1) P gf lb encs Bn t v0 Sx N) (hps : ∀ x, (encs x).size = ps.size)
    (hbn : Boxed w Bn t v0)
    (I : List α → World → Prop) (hI : OwnFrom w.heap.size I) (hIs : ∀ pre W v, I pre W → I pre (W.setCell ⟨Bn, 0, none⟩ v)) (h0 : I [] w) (a₁ : α → Act)
    (hassign : ∀ (l : Nat) (x : α) (W : World) (K : Act → World → Prop), K (a₁ x) W →
      assign.wpIn (F.inRound l) (n - 1 - 1) P (Exit.then K (fun _ _ _ => False)) { tmps := (ps.zip (encs x)).foldl (fun t (p, v) => t.setIfInBounds p v) a.tmps, defers := [] } W)
    (hbody : ∀ (l : Nat) (pre : List α) (x : α) (W : World), I pre W → pre.length < N → body.wpIn (F.inRound l) (n - 1 - 1) P (Exit.then (fun _ W' => KeepsOthers W W' ∧ (∀ v, Boxed W Bn t v → Boxed W' Bn t v) ∧ I (pre ++ [x]) W') (fun _ _ _ => False)) (a₁ x) W)
    (hdone : ∀ (D : Nat) (xs : List α) (W : World), w.heap.size ≤ D → Sx xs → I xs W → W.heap[D]? = some (.deferred (some [])) → Q .normal { a with defers := { target := .collected D, args := #[] } :: a.defers } W) :
    (Code.rangeFunc g ps assign body).wpIn F n P Q a w := by
  refine wpIn_rangeFunc fun fn hfn => ?_
  rw [hro]
  obtain ⟨R, hR⟩ : ∃ R : LoopState → Loop, ∀ s, R s = { state := s, pending := none, fn, tmps := a.tmps, params := ps, assign, body, defers := w.heap.size } := ⟨fun s => { state := s, pending := none, fn, tmps := a.tmps, params := ps, assign, body, defers := w.heap.size }, fun _ => rfl⟩
  obtain ⟨D, hD⟩ : ∃ D, w.heap.size = D := ⟨_, rfl⟩
  have hBD : Bn < D := by rw [← hD]; exact hbn.lt
  obtain ⟨W1, hW1⟩ : ∃ W1, (w.alloc (.deferred (some []))).alloc (.loop (R .ready)) = W1 := ⟨_, rfl⟩
  have hl : W1.heap[D + 1]? = some (.loop (R .ready)) := by
    rw [← hW1, ← hD]
    have h := World.alloc_heap_new (w.alloc (.deferred (some []))) (.loop (R .ready))
    rwa [World.size_alloc] at h
  have hd : W1.heap[D]? = some (.deferred (some [])) := by
    rw [← hW1, ← hD]
    exact (Below.heap_alloc _ _ _ (by simp)).trans (World.alloc_heap_new w _)
  have hb1 : Boxed W1 Bn t v0 := by rw [← hW1]; exact (hbn.alloc _).alloc _
  have hi1 : I [] W1 := by rw [← hW1]; exact hI.alloc _ (hI.alloc _ h0)
  -- What the rounds keep.
  obtain ⟨J, hJ⟩ : ∃ J : List α → World → Prop, ∀ pre W, J pre W ↔ (I pre W ∧ W.heap[D + 1]? = some (.loop (R .ready)) ∧ W.heap[D]? = some (.deferred (some []))) := ⟨_, fun _ _ => Iff.rfl⟩
  refine ⟨D + 1, [{ target := .collected D, args := #[] }], W1, { target := .fn (.func gf) lb, args := #[.func (.yield (D + 1)) #[] #[]] }, W1, gf, #[.func (.yield (D + 1)) #[] #[]] ++ lb, W1, ?_, ?_, ?_, ?_, fun _ => h1, ?_⟩
  · rw [← hW1, hR, ← hD]; exact run_enterLoop_outer _ _ _ _ _
  · simp only [resolve, hg]
    simp [go_sem]
  · intro f' hf
    simp [Target.leads] at hf
    subst hf
    exact hF
  · simp [invoke, go_sem, eg]
  · refine (hs (D + 1) J (fun pre W v h => ?_) (fun pre x W h hlen => ?_) W1 hb1 ((hJ _ _).2 ⟨hi1, hl, hd⟩)).mono ?_
    · obtain ⟨h2, h3, h4⟩ := (hJ _ _).1 h
      exact (hJ _ _).2 ⟨hIs _ _ _ h2, (heap_set v (by omega)).trans h3, (heap_set v (by omega)).trans h4⟩
    · obtain ⟨h2, h3, h4⟩ := (hJ _ _).1 h
      have hlt := (Array.getElem?_eq_some_iff.1 h3).1
      have hy := run_yield (P := P) (args := encs x) h3 (by rw [hR]; exact hps x)
      rw [hR] at hy
      refine ⟨fn, _, assign, body, hy, roundIn_of_wpIn hfn (hassign _ x W _ ⟨_, run_beginRound h3 (by rw [hR]), ?_⟩)⟩
      obtain ⟨W2, hW2⟩ : ∃ W2, W.putObj (D + 1) (.loop (R .busy)) = W2 := ⟨_, rfl⟩
      have e2 : W.putObj (D + 1) (.loop { R .ready with state := .busy }) = W2 := by rw [← hW2, hR, hR]
      rw [e2]
      have h5 : W2.heap[D + 1]? = some (.loop (R .busy)) := by rw [← hW2]; exact World.putObj_heap_same hlt
      have h6 : W2.heap[D]? = some (.deferred (some [])) := by rw [← hW2]; exact (World.putObj_heap_other (by omega)).trans h4
      have h7 : I pre W2 := by rw [← hW2]; exact hI.putObj _ h2 (by omega) h3 rfl
      refine wpIn_mono (hbody _ pre x W2 h7 hlen) ?_
      rintro e a3 W3 hp
      cases e with
      | normal =>
        obtain ⟨hk, hx, hi⟩ := hp
        have h8 := hk.same _ _ h5 rfl
        have h9 := hk.same _ _ h6 rfl
        refine ⟨_, _, run_endRound none h8, rfl, (hJ _ _).2 ⟨hI.putObj _ hi (by omega) h8 rfl, ?_, (World.putObj_heap_other (by omega)).trans h9⟩, fun v hv => ?_⟩
        · rw [World.putObj_heap_same (Array.getElem?_eq_some_iff.1 h8).1, hR, hR]; rfl
        · exact (World.putObj_heap_other (by omega)).trans (hx v (by rw [← hW2]; exact (World.putObj_heap_other (by omega)).trans hv))
      | ret => exact hp.elim
      | exit id => exact hp.elim
      | goto t => exact hp.elim
      | panic ch => exact hp.elim
      | outgrown => exact hp.elim
    · rintro e W2 ⟨⟨v, rfl⟩, xs, hSx, hj⟩
      obtain ⟨h2, h3, h4⟩ := (hJ _ _).1 hj
      have h5 := run_endLoop (P := P) h3 (by rw [hR]; simp)
      rw [show (R .ready).pending = none from by rw [hR]] at h5
      exact ⟨none, _, h5, hdone D xs _ (by omega) hSx (hI.putObj _ h2 (by omega) h3 rfl) ((World.putObj_heap_other (by omega)).trans h4)⟩

/-- The first j bits of n, the least significant one first. -/
def loB (n j : Nat) : List Bool := (List.range j).map fun t => decide (n / 2 ^ t % 2 = 1)
theorem loB_len (n j : Nat) : (loB n j).length = j := by simp [loB]
theorem loB_succ (n j : Nat) : loB n (j + 1) = loB n j ++ [decide (n / 2 ^ j % 2 = 1)] := by simp [loB, List.range_succ]
/-- The number of such bits. -/
def valL : List Bool → Nat
  | [] => 0
  | b :: l => b.toNat + 2 * valL l
theorem valL_snoc (b : Bool) : ∀ l : List Bool, valL (l ++ [b]) = valL l + b.toNat * 2 ^ l.length
  | [] => by simp [valL]
  | c :: l => by
    rw [List.cons_append, valL, valL, valL_snoc b l, List.length_cons, Nat.pow_succ, Nat.mul_add, ← Nat.add_assoc, Nat.mul_comm 2 (b.toNat * 2 ^ l.length), Nat.mul_assoc]
theorem valL_lo (n : Nat) : ∀ j, valL (loB n j) + 2 ^ j * (n / 2 ^ j) = n
  | 0 => by simp [loB, valL]
  | j + 1 => by
    have ih := valL_lo n j
    rw [loB_succ, valL_snoc, loB_len, Nat.pow_succ, ← Nat.div_div_eq_div_mul]
    generalize n / 2 ^ j = x at *
    have e : 2 ^ j * x = 2 ^ j * 2 * (x / 2) + 2 ^ j * (x % 2) := by
      rw [Nat.mul_assoc, ← Nat.mul_add, Nat.div_add_mod]
    by_cases h : x % 2 = 1
    · simp only [h, decide_true, Bool.toNat_true, Nat.one_mul, Nat.mul_one] at *; omega
    · have h0 : x % 2 = 0 := by omega
      simp only [h0, Nat.mul_zero, Nat.zero_ne_one, decide_false, Bool.toNat_false, Nat.zero_mul] at *; omega
theorem valL_all {n j : Nat} (h : n / 2 ^ j = 0) : valL (loB n j) = n := by
  have := valL_lo n j
  rw [h, Nat.mul_zero, Nat.add_zero] at this
  exact this

theorem gbinary_any (n : Int) (w : World) :
    Calls Tryz.prog 84 #[.int .i64 n] w fun e w' => e = .returned (.func (.func 100) #[] #[.pointer (some ⟨w.heap.size, 0, none⟩)]) ∧ w' = w.alloc (.cells #[.int .i64 n] 3) := by
  go_enter Tryz.func84, Tryz.ntmps84
  go_wp2_with fail
  go_ret
  exact ⟨rfl, rfl⟩

/-- What the box holds, as a number. -/
def boxN (W : World) (B : Nat) : Nat := match W.cell? ⟨B, 0, none⟩ with
  | some v => (intOf v).toNat
  | none => 0
theorem boxN_of {W : World} {B n : Nat} {t : TypeId} (h : Boxed W B t (.int .i64 n)) : boxN W B = n := by
  unfold boxN; rw [h.cell]; simp [intOf]

theorem gbin1 (Bn n : Nat) (hn : n < 9223372036854775808) :
    SeqBox Fence.wide 4 Tryz.prog 100 #[.pointer (some ⟨Bn, 0, none⟩)] (fun x : Bool => #[Value.bool x]) Bn 3 (.int .i64 n) (fun ys => ∃ j, ys = loB n j ∧ n / 2 ^ j = 0) 64 := by
  intro l J hJs hY W hW h0
  refine callsIn_of_wp Tryz.func100 rfl trivial ?_ rfl
  simp only [Tryz.ntmps100, List.size_toArray, List.length_cons, List.length_nil, Nat.reduceAdd, Nat.reduceSub, Array.replicate_succ, Array.replicate_zero, List.push_toArray, List.append_toArray, List.nil_append, List.cons_append]
  gi_wp2
  gi_loopw [3] (fun p wr => ∃ j : Nat, J (loB n j) wr ∧ Boxed wr Bn 3 (.int .i64 ((n / 2 ^ j : Nat) : Int)))
    (fun p wr => boxN wr Bn)
  case atStart => exact ⟨0, h0, by rw [Nat.pow_zero, Nat.div_one]; exact hW⟩
  case round =>
    obtain ⟨j, hJ, hb⟩ := hrel
    have hc := hb.cell
    by_cases hz : n / 2 ^ j = 0
    · have HZ := Lib.hid hz
      rw [hz] at hc
      clear hz
      gi_wp2
      go_end0
      exact ⟨⟨_, rfl⟩, _, ⟨j, rfl, HZ.out⟩, hJ⟩
    · have hj : j < 63 := by
        refine Nat.lt_of_not_le fun h => hz (Nat.div_eq_of_lt (Nat.lt_of_lt_of_le hn ?_))
        exact Nat.pow_le_pow_right (n := 2) (by decide) h
      have HS := Lib.hid (loB_succ n j)
      have HX : Hid (n / 2 ^ (j + 1) = n / 2 ^ j / 2) := Lib.hid (by rw [Nat.pow_succ, Nat.div_div_eq_div_mul])
      have hx : n / 2 ^ j < 9223372036854775808 := Nat.lt_of_le_of_lt (Nat.div_le_self _ _) hn
      have HL := Lib.hid (loB_len n j)
      have HJ := Lib.hid hJ
      clear hJ
      generalize n / 2 ^ j = x at *
      have f1 : decide ((0 : Int) < (x : Int)) = true := decide_eq_true (by omega)
      have hbit : (bits .and .i64 (x : Int) 1 == 1) = decide (x % 2 = 1) := by
        have h := bit_of x 0 hx (by omega)
        rw [Nat.pow_zero, Nat.div_one] at h
        rw [← h]; simp
      obtain ⟨b, hbd⟩ : ∃ b, decide (x % 2 = 1) = b := ⟨_, rfl⟩
      rw [hbd] at hbit HS
      clear hbd
      obtain ⟨fn, tmps, assign, body, hy, hR⟩ := hY (loB n j) b wr HJ.out (by rw [HL.out]; omega)
      gi_wp2
      refine hR.mono ?_
      rintro e W3 ⟨rfl, hJ3, hk3⟩
      have hb3 := hk3 _ hb
      have hc3 := hb3.cell
      have hf3 := hb3.frozen
      gi_wp2
      go_roundw
      case rel =>
        refine ⟨j + 1, ?_, ?_⟩
        · rw [HS.out]; exact hJs _ _ _ hJ3
        · rw [HX.out, show ((x / 2 : Nat) : Int) = (x : Int) / 2 by omega]; exact hb3.set _
      case measure =>
        have e : (x : Int) / 2 = ((x / 2 : Nat) : Int) := by omega
        rw [e, boxN_of (hb3.set _), boxN_of hb]
        omega
end Go.Proofs.YteigldfdaciopaaGreatDoor

namespace Go.Proofs.YteigldfdaciopaaGreatDoor
open Go.RowKit Go.Shelf
set_option linter.unusedVariables false
set_option linter.unusedSimpArgs false
attribute [local go_sem] Oper.semAt_some

theorem box_other {W : World} {B b : Nat} {t : TypeId} {v : Value} (h : Boxed W B t v) (u : Value) (hne : B ≠ b) : Boxed (W.setCell ⟨b, 0, none⟩ u) B t v := (heap_set u hne).trans h
theorem box_drew {W : World} {B : Nat} {t : TypeId} {v : Value} (h : Boxed W B t v) (k : Nat) : Boxed (W.drewN k) B t v := h
/-- What the loop's boxes hold: the base, squared; what has been multiplied. -/
structure GSt (B a c : Nat) (W : World) : Prop where
  base : Boxed W B 3 (.int .i64 a)
  acc : Boxed W (B + 1) 3 (.int .i64 c)
theorem GSt.kept {B a c : Nat} {W W' : World} {row : Option Nat} (h : GSt B a c W) (hg : W.grownBy W' row) (hr : ∀ r, row = some r → ∃ o : Obj, W.heap[r]? = some o ∧ o.isCells = false) : GSt B a c W' := by
  have key : ∀ {b : Nat} {v : Value}, Boxed W b 3 v → some b ≠ row := fun hb e => by
    obtain ⟨o, ho, hc⟩ := hr _ e.symm
    rw [show W.heap[_]? = _ from hb] at ho
    injection ho with ho
    subst ho
    cases hc
  exact ⟨h.base.kept hg (key h.base), h.acc.kept hg (key h.acc)⟩
theorem GSt.other {B a c b : Nat} {W : World} (h : GSt B a c W) (v : Value) (h1 : B + 1 < b) : GSt B a c (W.setCell ⟨b, 0, none⟩ v) := ⟨box_other h.base v (by omega), box_other h.acc v (by omega)⟩

/-- What the bits that have come make of the base. -/
theorem acc_step (a : Nat) (pre : List Bool) (b : Bool) : (if b then (a ^ valL pre % 4611686018427377339) * (a ^ 2 ^ pre.length % 4611686018427377339) % 4611686018427377339 else a ^ valL pre % 4611686018427377339) = a ^ valL (pre ++ [b]) % 4611686018427377339 := by
  rw [valL_snoc]
  cases b
  · simp
  · rw [if_pos rfl, ← Nat.mul_mod, ← Nat.pow_add]; simp
theorem base_step (a : Nat) (pre : List Bool) (b : Bool) : (a ^ 2 ^ pre.length % 4611686018427377339) * (a ^ 2 ^ pre.length % 4611686018427377339) % 4611686018427377339 = a ^ 2 ^ (pre ++ [b]).length % 4611686018427377339 := by
  rw [← Nat.mul_mod, ← Nat.pow_add]
  congr 2
  simp [Nat.pow_succ]; omega

set_option maxRecDepth 100000 in
set_option maxHeartbeats 2000000 in
theorem gpow_any (a n : Nat) (ha : a < 4611686018427377339) (hn : n < 9223372036854775808) (w : World) :
    Calls Tryz.prog 60 #[.int .i64 a, .int .i64 n] w fun e w' => e = .returned (.int .i64 ((a ^ n % 4611686018427377339 : Nat) : Int)) ∧ Below w.heap.size w w' := by
  obtain ⟨G, hG⟩ : ∃ G, a ^ n % 4611686018427377339 = G := ⟨_, rfl⟩
  rw [hG]
  have HG : Hid (∀ j, n / 2 ^ j = 0 → a ^ valL (loB n j) % 4611686018427377339 = G) := Lib.hid (fun j h => by rw [valL_all h]; exact hG)
  have HA : Hid (a = a ^ 2 ^ ([] : List Bool).length % 4611686018427377339) := Lib.hid (by rw [List.length_nil, Nat.pow_zero, Nat.pow_one, Nat.mod_eq_of_lt ha])
  clear hG
  have HM := Lib.hid (fun (p q : Nat) (hp : p < 4611686018427377339) (hq : q < 4611686018427377339) w => gprod_any p q hp hq w)
  refine (callsIn_wide (n := 5)).1 ?_
  refine callsIn_of_wp_marks Tryz.func60 rfl trivial ?_ rfl
  simp only [Tryz.ntmps60, List.size_toArray, List.length_cons, List.length_nil, Nat.reduceAdd, Nat.reduceSub, Array.replicate_succ, Array.replicate_zero, List.push_toArray, List.append_toArray, List.nil_append, List.cons_append]
  gi_wp2_with (refine ⟨trivial, ?_⟩; gi_at_call 84; refine (callsIn_wide.2 (gbinary_any _ _)).mono ?_; rintro e w' ⟨rfl, rfl⟩)
  generalize hW0 : (((w.alloc (Obj.cells #[Value.int IntKind.i64 (a : Int)] 3)).alloc (Obj.cells #[Value.int IntKind.i64 1] 3)).alloc (Obj.cells #[Value.int IntKind.i64 (n : Int)] 3)) = W0
  have hB0 : Below w.heap.size w W0 := by
    rw [← hW0]
    exact (((Below.refl _ w).alloc (Nat.le_refl _) _).alloc (by simp) _).alloc (by simp; omega) _
  have hsz : W0.heap.size = w.heap.size + 1 + 1 + 1 := by rw [← hW0]; simp
  have hst : GSt w.heap.size a 1 W0 := by
    rw [← hW0]
    have c1 := Boxed.new (w.alloc (Obj.cells #[Value.int IntKind.i64 (a : Int)] 3)) 3 (.int .i64 1)
    rw [World.size_alloc] at c1
    exact ⟨((Boxed.new _ _ _).alloc _).alloc _, c1.alloc _⟩
  have hbn : Boxed W0 (w.heap.size + 1 + 1) 3 (.int .i64 n) := by
    rw [← hW0]
    have c1 := Boxed.new ((w.alloc (Obj.cells #[Value.int IntKind.i64 (a : Int)] 3)).alloc (Obj.cells #[Value.int IntKind.i64 1] 3)) 3 (.int .i64 n)
    rw [World.size_alloc, World.size_alloc] at c1
    exact c1
  clear hW0
  refine range_box rfl (by decide) (gf := 100) (lb := #[.pointer (some ⟨w.heap.size + 1 + 1, 0, none⟩)]) rfl trivial (enters_of Tryz.func100 (by kernel_rfl) rfl)
    (gbin1 (w.heap.size + 1 + 1) n hn) (fun _ => rfl) hbn
    (fun pre W => GSt w.heap.size (a ^ 2 ^ pre.length % 4611686018427377339) (a ^ valL pre % 4611686018427377339) W ∧ Below w.heap.size w W)
    (OwnFrom.and (Own.from (fun s A B row hs hg hr => hs.kept hg hr) _) (ownFrom_below (Nat.le_refl _) (by omega)))
    (fun pre W v h => ⟨h.1.other v (by omega), h.2.setCell (p := ⟨w.heap.size + 1 + 1, 0, none⟩) (by simp; omega) v⟩)
    ⟨by rw [show a ^ valL [] % 4611686018427377339 = 1 from rfl, ← HA.out]; exact hst, hB0⟩
    (fun x => { tmps := #[.int .i64 a, .int .i64 n, .pointer (some ⟨w.heap.size, 0, none⟩), undef, .int .i64 0, .pointer (some ⟨w.heap.size + 1, 0, none⟩), .bool x, .int .i64 n, .func (.func 100) #[] #[.pointer (some ⟨w.heap.size + 1 + 1, 0, none⟩)], .bool x, undef, undef, undef, undef, undef, undef, undef, undef], defers := [] }) ?assign ?body ?done
  case assign =>
    intro l x W K hK
    gi_wp2
    exact hK
  case body =>
    rintro l pre x W ⟨hs, hB⟩ _
    have hp : a ^ 2 ^ pre.length % 4611686018427377339 < 4611686018427377339 := Nat.mod_lt _ (by decide)
    have hc : a ^ valL pre % 4611686018427377339 < 4611686018427377339 := Nat.mod_lt _ (by decide)
    have H1 := Lib.hid (acc_step a pre x)
    have H2 := Lib.hid (base_step a pre x)
    generalize a ^ 2 ^ pre.length % 4611686018427377339 = p at *
    generalize a ^ valL pre % 4611686018427377339 = c at *
    generalize a ^ 2 ^ (pre ++ [x]).length % 4611686018427377339 = p2 at *
    generalize a ^ valL (pre ++ [x]) % 4611686018427377339 = c2 at *
    have K1 := fun w => HM.out c p hc hp w
    have K2 := fun w => HM.out p p hp hp w
    clear HM
    have k1 := hs.base.cell
    have k2 := hs.acc.cell
    have k3 := hs.base.frozen
    have k4 := hs.acc.frozen
    rw [H2.out] at K2
    cases x
    · have e2 : c = c2 := H1.out
      clear H1 H2 K1 hc hp
      subst e2
      gi_wp2_with (refine ⟨trivial, ?_⟩; gi_at_call 78; refine (CallsIn.inRound l (callsIn_wide.2 (K2 _))).mono ?_; rintro e W1 ⟨rfl, k, rfl⟩)
      exact ⟨(KeepsOthers.drewN W k).trans (KeepsOthers.setCell _ _ _), fun v hv => box_other (box_drew hv k) _ (by omega), ⟨(box_drew hs.base k).set _, box_other (box_drew hs.acc k) _ (by omega)⟩, (below_drewN hB k).setCell (p := ⟨w.heap.size, 0, none⟩) (Nat.le_refl _) _⟩
    · have e2 : c * p % 4611686018427377339 = c2 := H1.out
      rw [e2] at K1
      clear H1 H2 hc hp e2
      gi_wp2_with (first
        | (refine ⟨trivial, ?_⟩; gi_at_call 78; with_reducible refine (CallsIn.inRound l (callsIn_wide.2 (K1 _))).mono ?_; clear K1; rintro e W1 ⟨rfl, k, rfl⟩)
        | (refine ⟨trivial, ?_⟩; gi_at_call 78; with_reducible refine (CallsIn.inRound l (callsIn_wide.2 (K2 _))).mono ?_; rintro e W1 ⟨rfl, k', rfl⟩))
      exact ⟨(((KeepsOthers.drewN W k).trans (KeepsOthers.setCell _ _ _)).trans (KeepsOthers.drewN _ k')).trans (KeepsOthers.setCell _ _ _),
        fun v hv => box_other (box_drew (box_other (box_drew hv k) _ (by omega)) k') _ (by omega),
        ⟨(box_drew (box_other (box_drew hs.base k) _ (by omega)) k').set _, box_other (box_drew ((box_drew hs.acc k).set _) k') _ (by omega)⟩,
        (below_drewN ((below_drewN hB k).setCell (p := ⟨w.heap.size + 1, 0, none⟩) (by simp) _) k').setCell (p := ⟨w.heap.size, 0, none⟩) (Nat.le_refl _) _⟩
  case done =>
    rintro D ys W hD ⟨j, rfl, hj⟩ ⟨hs, hB⟩ hK
    rw [HG.out j hj] at hs
    have c1 := hs.acc.cell
    gi_wp2
    refine ⟨by simp, .inl ⟨_, _, rfl, run_takeDeferred hK, ?_⟩⟩
    exact ⟨_, results_tmp rfl _ _ _, rfl, hB.trans (belowK_b (w := w) (Nat.le_refl _) W D _ _ (by omega) hK rfl rfl)⟩
end Go.Proofs.YteigldfdaciopaaGreatDoor

namespace Go.Proofs.YteigldfdaciopaaGreatDoor
open Go.RowKit
set_option linter.unusedVariables false
set_option linter.unusedSimpArgs false

/-- Whether a number is an element. -/
noncomputable def elB (a : Int) : Bool := @decide (IsEl a) (Classical.propDecidable _)
theorem elB_true {a : Int} (h : IsEl a) : elB a = true := @decide_eq_true _ (Classical.propDecidable _) h
theorem elB_false {a : Int} (h : ¬ IsEl a) : elB a = false := @decide_eq_false _ (Classical.propDecidable _) h

theorem isElement_any (a : Int) (w : World) :
    Calls Tryz.prog 52 #[.int .i64 a] w fun e w' => e = .returned (.bool (elB a)) ∧ Below w.heap.size w w' := by
  by_cases h1 : 1 ≤ a
  · have f1 : decide (1 ≤ a) = true := decide_eq_true h1
    by_cases h2 : a < 4611686018427377339
    · have f2 : decide (a < 4611686018427377339) = true := decide_eq_true h2
      obtain ⟨n, rfl⟩ : ∃ n : Nat, a = (n : Int) := ⟨a.toNat, by omega⟩
      have hp := gpow_any n 2305843009213688669 (by omega) (by decide)
      obtain ⟨x, hx⟩ : ∃ x, n ^ 2305843009213688669 % 4611686018427377339 = x := ⟨_, rfl⟩
      have hb : elB (n : Int) = ((x : Int) == 1) := by
        by_cases h : x = 1
        · rw [elB_true ⟨h1, h2, by unfold El oQ; rw [Int.toNat_natCast, hx]; exact h⟩, h]; rfl
        · rw [elB_false (fun hh => h (by have := hh.2.2; unfold El oQ at this; rw [Int.toNat_natCast, hx] at this; exact this))]
          symm; simp; omega
      rw [hx] at hp
      rw [hb]
      clear hx hb
      have HP := Lib.hid hp
      clear hp
      go_enter Tryz.func52, Tryz.ntmps52
      go_wp2_with (go_at_call 60; refine (HP.out _).mono ?_; rintro e w1 ⟨rfl, hb⟩)
      go_ret
      exact ⟨rfl, hb⟩
    · have f2 : decide (a < 4611686018427377339) = false := decide_eq_false h2
      rw [elB_false (fun h => h2 h.2.1)]
      go_enter Tryz.func52, Tryz.ntmps52
      go_wp2_with fail
      go_ret
      exact ⟨rfl, Below.refl _ _⟩
  · have f1 : decide (1 ≤ a) = false := decide_eq_false h1
    rw [elB_false (fun h => h1 h.1)]
    go_enter Tryz.func52, Tryz.ntmps52
    go_wp2_with fail
    go_ret
    exact ⟨rfl, Below.refl _ _⟩

theorem gCheck_ok (a : Int) (h : IsEl a) (w : World) :
    Calls Tryz.prog 24 #[.int .i64 a] w fun e w' => e = .returned (.int .i64 0) ∧ Below w.heap.size w w' := by
  have hk := fun w => isElement_any a w
  rw [elB_true h] at hk
  go_enter Tryz.func24, Tryz.ntmps24
  go_wp2_with (go_at_call 52; refine (hk _).mono ?_; rintro e w1 ⟨rfl, hb⟩)
  go_ret
  exact ⟨rfl, hb⟩
theorem gCheck_bad (a : Int) (h : ¬ IsEl a) (w : World) :
    Calls Tryz.prog 24 #[.int .i64 a] w fun e w' => e = .returned (.int .i64 40) ∧ Below w.heap.size w w' := by
  have hk := fun w => isElement_any a w
  rw [elB_false h] at hk
  go_enter Tryz.func24, Tryz.ntmps24
  go_wp2_with (go_at_call 52; refine (hk _).mono ?_; rintro e w1 ⟨rfl, hb⟩)
  go_ret
  exact ⟨rfl, hb⟩
theorem gCheck_any (a : Int) (w : World) :
    Calls Tryz.prog 24 #[.int .i64 a] w fun e w' => e = .returned (.int .i64 (chkR a)) ∧ Below w.heap.size w w' := by
  by_cases h : IsEl a
  · rw [chkR_ok h]; exact gCheck_ok a h w
  · rw [chkR_bad h]; exact gCheck_bad a h w
theorem ginverse_any (a : Nat) (h : a < 4611686018427377339) (w : World) :
    Calls Tryz.prog 77 #[.int .i64 a] w fun e w' => e = .returned (.int .i64 ((a ^ (oQ - 1) % 4611686018427377339 : Nat) : Int)) ∧ Below w.heap.size w w' := by
  obtain ⟨o, ho⟩ : ∃ o, oQ - 1 = o := ⟨_, rfl⟩
  have hk := fun w => gpow_any a 2305843009213688668 h (by decide) w
  rw [show 2305843009213688668 = o from ho] at hk
  have e : ((o : Nat) : Int) = 2305843009213688668 := by rw [← ho]; rfl
  rw [e] at hk
  rw [ho]
  clear ho e
  generalize a ^ o % 4611686018427377339 = r at *
  go_enter Tryz.func77, Tryz.ntmps77
  go_wp2_with (go_at_call 60; refine (hk _).mono ?_; rintro e w1 ⟨rfl, hb⟩)
  go_ret
  exact ⟨rfl, hb⟩

theorem gMul_ok (a b : Nat) (ha : IsEl a) (hb : IsEl b) (w : World) :
    Calls Tryz.prog 50 #[.int .i64 a, .int .i64 b] w fun e w' => e = .returned (.tuple #[.int .i64 ((a * b % 4611686018427377339 : Nat) : Int), .int .i64 0]) ∧ Below w.heap.size w w' := by
  have k1 := fun w => gCheck_ok a ha w
  have k2 := fun w => gCheck_ok b hb w
  have k3 := fun w => gprod_any a b (by have := ha.2.1; omega) (by have := hb.2.1; omega) w
  clear ha hb
  generalize a * b % 4611686018427377339 = r at *
  have HB := Below.refl w.heap.size w
  go_enter Tryz.func50, Tryz.ntmps50
  go_wp2_with (first
    | (go_at_call 24; with_reducible refine (k1 _).mono ?_; rintro e w1 ⟨rfl, hb⟩; replace HB := belowNext HB hb; clear hb k1)
    | (go_at_call 24; with_reducible refine (k2 _).mono ?_; rintro e w1 ⟨rfl, hb⟩; replace HB := belowNext HB hb; clear hb)
    | (go_at_call 78; with_reducible refine (k3 _).mono ?_; rintro e w1 ⟨rfl, k, rfl⟩))
  go_ret2
  exact ⟨rfl, below_drewN HB _⟩
theorem gMul_bad1 (a b : Int) (ha : ¬ IsEl a) (w : World) :
    Calls Tryz.prog 50 #[.int .i64 a, .int .i64 b] w fun e w' => e = .returned (.tuple #[.int .i64 0, .int .i64 40]) ∧ Below w.heap.size w w' := by
  have k1 := fun w => gCheck_bad a ha w
  clear ha
  go_enter Tryz.func50, Tryz.ntmps50
  go_wp2_with (go_at_call 24; with_reducible refine (k1 _).mono ?_; rintro e w1 ⟨rfl, hb⟩)
  go_ret2
  exact ⟨rfl, hb⟩
theorem gMul_bad2 (a b : Int) (ha : IsEl a) (hb : ¬ IsEl b) (w : World) :
    Calls Tryz.prog 50 #[.int .i64 a, .int .i64 b] w fun e w' => e = .returned (.tuple #[.int .i64 0, .int .i64 40]) ∧ Below w.heap.size w w' := by
  have k1 := fun w => gCheck_ok a ha w
  have k2 := fun w => gCheck_bad b hb w
  clear ha hb
  have HB := Below.refl w.heap.size w
  go_enter Tryz.func50, Tryz.ntmps50
  go_wp2_with (first
    | (go_at_call 24; with_reducible refine (k1 _).mono ?_; rintro e w1 ⟨rfl, hb⟩; replace HB := belowNext HB hb; clear hb k1)
    | (go_at_call 24; with_reducible refine (k2 _).mono ?_; rintro e w1 ⟨rfl, hb⟩; replace HB := belowNext HB hb; clear hb))
  go_ret2
  exact ⟨rfl, HB⟩
theorem pairV (p : Int × Int) : Value.tuple #[.int .i64 p.1, .int .i64 p.2] = .tuple #[.int .i64 p.1, .int .i64 p.2] := rfl
theorem gMul_any (a b : Int) (w : World) :
    Calls Tryz.prog 50 #[.int .i64 a, .int .i64 b] w fun e w' => e = .returned (.tuple #[.int .i64 (mulR a b).1, .int .i64 (mulR a b).2]) ∧ Below w.heap.size w w' := by
  by_cases ha : IsEl a
  · by_cases hb : IsEl b
    · obtain ⟨n, rfl, -⟩ := ha.nat
      obtain ⟨m, rfl, -⟩ := hb.nat
      rw [mulR_ok ha hb]; exact gMul_ok n m ha hb w
    · rw [mulR_bad2 hb]; exact gMul_bad2 a b ha hb w
  · rw [mulR_bad1 ha]; exact gMul_bad1 a b ha w

theorem gInv_ok (a : Nat) (ha : IsEl a) (w : World) :
    Calls Tryz.prog 49 #[.int .i64 a] w fun e w' => e = .returned (.tuple #[.int .i64 ((a ^ (oQ - 1) % 4611686018427377339 : Nat) : Int), .int .i64 0]) ∧ Below w.heap.size w w' := by
  have k1 := fun w => gCheck_ok a ha w
  have k2 := fun w => ginverse_any a (by have := ha.2.1; omega) w
  clear ha
  generalize a ^ (oQ - 1) % 4611686018427377339 = r at *
  have HB := Below.refl w.heap.size w
  go_enter Tryz.func49, Tryz.ntmps49
  go_wp2_with (first
    | (go_at_call 24; with_reducible refine (k1 _).mono ?_; rintro e w1 ⟨rfl, hb⟩; replace HB := belowNext HB hb; clear hb)
    | (go_at_call 77; with_reducible refine (k2 _).mono ?_; rintro e w1 ⟨rfl, hb⟩; replace HB := belowNext HB hb; clear hb))
  go_ret2
  exact ⟨rfl, HB⟩
theorem gInv_bad (a : Int) (ha : ¬ IsEl a) (w : World) :
    Calls Tryz.prog 49 #[.int .i64 a] w fun e w' => e = .returned (.tuple #[.int .i64 0, .int .i64 40]) ∧ Below w.heap.size w w' := by
  have k1 := fun w => gCheck_bad a ha w
  clear ha
  go_enter Tryz.func49, Tryz.ntmps49
  go_wp2_with (go_at_call 24; with_reducible refine (k1 _).mono ?_; rintro e w1 ⟨rfl, hb⟩)
  go_ret2
  exact ⟨rfl, hb⟩
theorem gInv_any (a : Int) (w : World) :
    Calls Tryz.prog 49 #[.int .i64 a] w fun e w' => e = .returned (.tuple #[.int .i64 (invR a).1, .int .i64 (invR a).2]) ∧ Below w.heap.size w w' := by
  by_cases ha : IsEl a
  · obtain ⟨n, rfl, -⟩ := ha.nat
    rw [invR_ok ha]; exact gInv_ok n ha w
  · rw [invR_bad ha]; exact gInv_bad a ha w

theorem gExp_ok (a k : Nat) (ha : IsEl a) (hk : k < 2305843009213688669) (w : World) :
    Calls Tryz.prog 29 #[.int .i64 a, .int .i64 k] w fun e w' => e = .returned (.tuple #[.int .i64 ((a ^ k % 4611686018427377339 : Nat) : Int), .int .i64 0]) ∧ Below w.heap.size w w' := by
  have k1 := fun w => gCheck_ok a ha w
  have k2 := fun w => fCheck k w
  have k3 := fun w => gpow_any a k (by have := ha.2.1; omega) (by omega) w
  rw [if_pos (scal_nat hk)] at k2
  clear ha
  generalize a ^ k % 4611686018427377339 = r at *
  have HB := Below.refl w.heap.size w
  go_enter Tryz.func29, Tryz.ntmps29
  go_wp2_with (first
    | (go_at_call 24; with_reducible refine (k1 _).mono ?_; rintro e w1 ⟨rfl, hb⟩; replace HB := belowNext HB hb; clear hb)
    | (go_at_call 59; with_reducible refine (k2 _).mono ?_; rintro e w1 ⟨rfl, hb⟩; replace HB := belowNext HB hb; clear hb)
    | (go_at_call 60; with_reducible refine (k3 _).mono ?_; rintro e w1 ⟨rfl, hb⟩; replace HB := belowNext HB hb; clear hb))
  go_ret2
  exact ⟨rfl, HB⟩
theorem gExp_bad (a k : Int) (ha : ¬ IsEl a) (w : World) :
    Calls Tryz.prog 29 #[.int .i64 a, .int .i64 k] w fun e w' => e = .returned (.tuple #[.int .i64 0, .int .i64 40]) ∧ Below w.heap.size w w' := by
  have k1 := fun w => gCheck_bad a ha w
  clear ha
  go_enter Tryz.func29, Tryz.ntmps29
  go_wp2_with (go_at_call 24; with_reducible refine (k1 _).mono ?_; rintro e w1 ⟨rfl, hb⟩)
  go_ret2
  exact ⟨rfl, hb⟩
theorem gExp_arg (a k : Int) (ha : IsEl a) (hk : scal k = false) (w : World) :
    Calls Tryz.prog 29 #[.int .i64 a, .int .i64 k] w fun e w' => e = .returned (.tuple #[.int .i64 0, .int .i64 1]) ∧ Below w.heap.size w w' := by
  have k1 := fun w => gCheck_ok a ha w
  have k2 := fun w => fCheck k w
  rw [hk] at k2
  simp only [Bool.false_eq_true, if_false] at k2
  clear ha hk
  have HB := Below.refl w.heap.size w
  go_enter Tryz.func29, Tryz.ntmps29
  go_wp2_with (first
    | (go_at_call 24; with_reducible refine (k1 _).mono ?_; rintro e w1 ⟨rfl, hb⟩; replace HB := belowNext HB hb; clear hb)
    | (go_at_call 59; with_reducible refine (k2 _).mono ?_; rintro e w1 ⟨rfl, hb⟩; replace HB := belowNext HB hb; clear hb))
  go_ret2
  exact ⟨rfl, HB⟩
theorem gExp_any (a k : Int) (w : World) :
    Calls Tryz.prog 29 #[.int .i64 a, .int .i64 k] w fun e w' => e = .returned (.tuple #[.int .i64 (expR a k).1, .int .i64 (expR a k).2]) ∧ Below w.heap.size w w' := by
  by_cases ha : IsEl a
  · by_cases hk : 0 ≤ k ∧ k < 2305843009213688669
    · obtain ⟨n, rfl, -⟩ := ha.nat
      obtain ⟨m, rfl⟩ : ∃ m : Nat, k = (m : Int) := ⟨k.toNat, by omega⟩
      rw [expR_ok ha (by omega)]; exact gExp_ok n m ha (by omega) w
    · rw [expR_arg ha hk]; exact gExp_arg a k ha (by simp [scal]; omega) w
  · rw [expR_bad ha]; exact gExp_bad a k ha w
theorem gBase_any (k : Int) (w : World) :
    Calls Tryz.prog 18 #[.int .i64 k] w fun e w' => e = .returned (.tuple #[.int .i64 (expR 4 k).1, .int .i64 (expR 4 k).2]) ∧ Below w.heap.size w w' := by
  have k1 := fun w => gExp_any 4 k w
  obtain ⟨x, hx⟩ : ∃ x, (expR 4 k).1 = x := ⟨_, rfl⟩
  obtain ⟨y, hy⟩ : ∃ y, (expR 4 k).2 = y := ⟨_, rfl⟩
  rw [hx, hy] at k1 ⊢
  clear hx hy
  go_enter Tryz.func18, Tryz.ntmps18
  go_wp2_with (go_at_call 29; with_reducible refine (k1 _).mono ?_; rintro e w1 ⟨rfl, hb⟩)
  go_ret2
  exact ⟨rfl, hb⟩
end Go.Proofs.YteigldfdaciopaaGreatDoor
