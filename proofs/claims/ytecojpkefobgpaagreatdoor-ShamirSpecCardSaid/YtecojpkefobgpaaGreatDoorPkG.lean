/-
  Package group: products modulo P; the reference's sums, products and powers modulo any number below 2^62.
  A range over a function that writes a variable of its own between the rounds, where no round leaves the loop; the bits of an exponent, the least significant one first.
  Package group's powers.
  Package group's functions, and the reference's: checks, products, inverses, powers.
-/
import Derived.Test.YtecojpkefobgpaaGreatDoorPkN
import Derived.Test.YtecojpkefobgpaaGreatDoorPkV
import Derived.Test.YtecojpkefobgpaaGreatDoorPkF
import Derived.RangeFuncBox
set_option linter.unusedVariables false
set_option linter.unusedSimpArgs false
namespace Go.Proofs.YtecojpkefobgpaaGreatDoor
open Go.RowKit
set_option linter.unusedVariables false
set_option linter.unusedSimpArgs false

theorem div64P_any (hi lo : Nat) (hhi : hi < 4611686018427377339) (hlo : lo < 18446744073709551616) (w : World) :
    Calls Tryz.prog 83 #[.int .u64 hi, .int .u64 lo, .int .u64 4611686018427377339] w fun e w' => (∃ q : Int, e = .returned (.tuple #[.int .u64 q, .int .u64 (((hi * 18446744073709551616 + lo) % 4611686018427377339 : Nat) : Int)])) ∧ ∃ k, w' = w.drewN k := by
  by_cases h0 : hi = 0
  · subst h0
    rw [Nat.zero_mul, Nat.zero_add]
    exact P.div64_zero lo hlo w
  · refine (P.div64_pos hi lo (by omega) hhi hlo w).mono ?_
    rintro e w' ⟨h, rfl⟩
    exact ⟨h, 0, rfl⟩

theorem rem64P_any (hi lo : Nat) (hhi : hi < 4611686018427377339) (hlo : lo < 18446744073709551616) (w : World) :
    Calls Tryz.prog 75 #[.int .u64 hi, .int .u64 lo, .int .u64 4611686018427377339] w fun e w' => e = .returned (.int .u64 (((hi * 18446744073709551616 + lo) % 4611686018427377339 : Nat) : Int)) ∧ ∃ k, w' = w.drewN k := by
  have c1 : IntKind.u64.wrap ((hi : Int).tmod 4611686018427377339) = (hi : Int) := by rw [Int.tmod_eq_emod_of_nonneg (by omega), wrapU _ (by omega) (by omega)]; omega
  have c2 : (hi : Int).tmod 4611686018427377339 = (hi : Int) := by rw [Int.tmod_eq_emod_of_nonneg (by omega)]; omega
  have HD := Lib.hid (fun w => div64P_any hi lo hhi hlo w)
  generalize (hi * 18446744073709551616 + lo) % 4611686018427377339 = r at *
  go_enter Tryz.func75, Tryz.ntmps75
  go_wp2_with (go_at_call 83; refine (HD.out _).mono ?_; rintro e w' ⟨⟨q, rfl⟩, k, hw⟩; rw [hw]; clear hw w')
  go_ret
  exact ⟨rfl, _, rfl⟩

theorem prodHiP {a b : Nat} (ha : a < 4611686018427377339) (hb : b < 4611686018427377339) : a * b / 18446744073709551616 < 4611686018427377339 := by
  have h : a * b ≤ 4611686018427377338 * 4611686018427377338 := Nat.mul_le_mul (by omega) (by omega)
  generalize a * b = x at *
  omega

theorem gsum_any (m a b : Nat) (hm : m < 4611686018427387904) (ha : a < m) (hb : b < m) (w : World) :
    Calls Tryz.prog 100 #[.int .i64 a, .int .i64 b, .int .i64 m] w fun e w' => e = .returned (.int .i64 (((a + b) % m : Nat) : Int)) ∧ w' = w := by
  have c1 := wrapI ((a : Int) + b) (by omega) (by omega)
  by_cases h : m ≤ a + b
  · have f1 : decide ((m : Int) ≤ (a : Int) + b) = true := decide_eq_true (by omega)
    have c2 := wrapI ((a : Int) + b - m) (by omega) (by omega)
    have c3 : (a : Int) + b - m = (((a + b) % m : Nat) : Int) := by
      rw [Nat.mod_eq_sub_mod h, Nat.mod_eq_of_lt (by omega)]; omega
    generalize (a + b) % m = r at *
    go_enter Tryz.func100, Tryz.ntmps100
    go_wp2_with fail
    go_ret
    exact ⟨by rw [← c3]; rfl, rfl⟩
  · have f1 : decide ((m : Int) ≤ (a : Int) + b) = false := decide_eq_false (by omega)
    have c3 : (a : Int) + b = (((a + b) % m : Nat) : Int) := by
      rw [Nat.mod_eq_of_lt (by omega)]; omega
    generalize (a + b) % m = r at *
    go_enter Tryz.func100, Tryz.ntmps100
    go_wp2_with fail
    go_ret
    exact ⟨by rw [← c3]; rfl, rfl⟩

set_option maxHeartbeats 800000 in
theorem grprod_any (m a b : Nat) (hm : m < 4611686018427387904) (ha : a < m) (hb : b < 9223372036854775808) (w : World) :
    Calls Tryz.prog 84 #[.int .i64 a, .int .i64 b, .int .i64 m] w fun e w' => e = .returned (.int .i64 ((a * b % m : Nat) : Int)) ∧ w' = w := by
  go_enter Tryz.func84, Tryz.ntmps84
  go_wp2_with fail
  go_loopw [0, 1, 7] (fun x y z wr => ∃ p q c : Nat, x = .int .i64 p ∧ y = .int .i64 q ∧ z = .int .i64 c ∧ p < m ∧ q < 9223372036854775808 ∧ c < m ∧ (c + p * q) % m = a * b % m ∧ wr = w) (fun _ y _ _ => (intOf y).toNat)
  case atStart => exact ⟨a, b, 0, rfl, rfl, rfl, ha, hb, by omega, by rw [Nat.zero_add], rfl⟩
  case round =>
    obtain ⟨p, q, c, rfl, rfl, rfl, hp, hq, hc, hi, hw⟩ := hrel
    subst hw
    by_cases h0 : q = 0
    · subst h0
      have e : c = a * b % m := by rw [← hi, Nat.mul_zero, Nat.add_zero, Nat.mod_eq_of_lt hc]
      clear hi
      go_wp2_with fail
      go_ret
      exact ⟨by rw [e]; rfl, rfl⟩
    · have f1 : decide ((0 : Int) < (q : Int)) = true := decide_eq_true (by omega)
      have hi' := step_prod (a := p) (b := q) (c := c) (n := m)
      rw [hi] at hi'
      have d1 : IntKind.i64.wrap ((q : Int).tdiv 2) = ((q / 2 : Nat) : Int) := by rw [Int.tdiv_eq_ediv_of_nonneg (by omega), wrapI _ (by omega) (by omega)]; omega
      have hpp : (p + p) % m < m := Nat.mod_lt _ (by omega)
      have hcc : (c + p) % m < m := Nat.mod_lt _ (by omega)
      have HI := Lib.hid hi'
      have hq2 : q / 2 < 9223372036854775808 := by clear hi hi'; omega
      clear hi hi'
      by_cases h1 : q % 2 = 1
      · have f2 : ((q : Int).tmod 2 == 1) = true := by rw [Int.tmod_eq_emod_of_nonneg (by omega)]; simp; omega
        go_wp2_with (go_at_call 100; refine (gsum_any _ _ _ hm (by assumption) (by assumption) _).mono ?_; rintro e w' ⟨rfl, hw⟩; rw [hw]; clear hw w')
        go_roundw
        case rel =>
          have h := HI.out
          rw [if_pos h1] at h
          exact ⟨_, q / 2, _, rfl, rfl, rfl, hpp, hq2, hcc, h, trivial⟩
        case measure => simp [intOf]; omega
      · have f2 : ((q : Int).tmod 2 == 1) = false := by rw [Int.tmod_eq_emod_of_nonneg (by omega)]; simp; omega
        go_wp2_with (go_at_call 100; refine (gsum_any _ _ _ hm (by assumption) (by assumption) _).mono ?_; rintro e w' ⟨rfl, hw⟩; rw [hw]; clear hw w')
        go_roundw
        case rel =>
          have h := HI.out
          rw [if_neg h1] at h
          exact ⟨_, q / 2, _, rfl, rfl, rfl, hpp, hq2, hc, h, trivial⟩
        case measure => simp [intOf]; omega

end Go.Proofs.YtecojpkefobgpaaGreatDoor

namespace Go.Proofs.YtecojpkefobgpaaGreatDoor
open Go.RowKit Go.Shelf
set_option linter.unusedVariables false
set_option linter.unusedSimpArgs false
attribute [local go_sem] Oper.semAt_some

/-- What a function that is ranged over does, where it keeps its place in the box Bn: it yields a list that fits Sx, and what the rounds keep is also kept by stores into the box. -/
def SeqBox {α : Type} (F : Fence) (n : Nat) (P : Program) (g : Nat) (lb : Array Value) (encs : α → Array Value) (Bn : Nat) (t : TypeId) (v0 : Value) (Sx : List α → Prop) (N : Nat) : Prop :=
  ∀ (l : Nat) (J : List α → World → Prop),
    (∀ pre W v, J pre W → J pre (W.setCell ⟨Bn, 0, none⟩ v)) →
    (∀ pre x W, J pre W → pre.length < N → YieldAt F (n - 1) P l (encs x) W fun e W' => e = .returned (.bool true) ∧ J (pre ++ [x]) W' ∧ ∀ v, Boxed W Bn t v → Boxed W' Bn t v) →
    ∀ W, Boxed W Bn t v0 → J [] W →
    CallsIn F n P g (#[.func (.yield l) #[] #[]] ++ lb) W fun e W' => (∃ v, e = .returned v) ∧ ∃ ys, Sx ys ∧ J ys W'

theorem heap_set {W : World} {b k : Nat} (v : Value) (h : k ≠ b) : (W.setCell ⟨b, 0, none⟩ v).heap[k]? = W.heap[k]? := Below.heap_setCell W ⟨b, 0, none⟩ v k h

/-- The loop over such a function, whose body always goes on. -/
theorem range_box {F : Fence} {n : Nat} {P : Program} {α : Type} {g : Operand} {ps : Array Tmp} {assign body : Code} {Q : Exit → Act → World → Prop} {a : Act} {w : World}
    (hro : F.round = none) (h1 : 1 ≤ n) {gf : Nat} {lb : Array Value} (hg : a.eval g = .func (.func gf) #[] lb) (hF : F.fn gf) (eg : ∀ args w, (callFunc gf args).run P w = .ok (.enter gf args) w)
    {encs : α → Array Value} {Bn : Nat} {t : TypeId} {v0 : Value} {Sx : List α → Prop} {N : Nat} (hs : SeqBox F (n - 1) P gf lb encs Bn t v0 Sx N) (hps : ∀ x, (encs x).size = ps.size)
    (hbn : Boxed w Bn t v0)
    (I : List α → World → Prop) (hI : OwnFrom w.heap.size I) (hIs : ∀ pre W v, I pre W → I pre (W.setCell ⟨Bn, 0, none⟩ v)) (h0 : I [] w) (a₁ : α → Act)
    (hassign : ∀ (l : Nat) (x : α) (W : World) (K : Act → World → Prop), K (a₁ x) W →
      assign.wpIn (F.inRound l) (n - 1 - 1) P (Exit.then K (fun _ _ _ => False)) { tmps := (ps.zip (encs x)).foldl (fun t (p, v) => t.setIfInBounds p v) a.tmps, defers := [] } W)
    (hbody : ∀ (l : Nat) (pre : List α) (x : α) (W : World), I pre W → pre.length < N → body.wpIn (F.inRound l) (n - 1 - 1) P (Exit.then (fun _ W' => KeepsOthers W W' ∧ (∀ v, Boxed W Bn t v → Boxed W' Bn t v) ∧ I (pre ++ [x]) W') (fun _ _ _ => False)) (a₁ x) W)
    (hdone : ∀ (D : Nat) (xs : List α) (W : World), w.heap.size ≤ D → Sx xs → I xs W → W.heap[D]? = some (.deferred (some [])) → Q .normal { a with defers := { target := .collected D, args := #[] } :: a.defers } W) :
    (Code.rangeFunc g ps assign body).wpIn F n P Q a w := by
  refine wpIn_rangeFunc fun fn hfn => ?_
  rw [hro]
  obtain ⟨R, hR⟩ : ∃ R : LoopState → Loop, ∀ s, R s = { state := s, pending := none, fn, tmps := a.tmps, params := ps, assign, body, defers := w.heap.size } := ⟨fun s => { state := s, pending := none, fn, tmps := a.tmps, params := ps, assign, body, defers := w.heap.size }, fun _ => rfl⟩
  obtain ⟨D, hD⟩ : ∃ D, w.heap.size = D := ⟨_, rfl⟩
  have hBD : Bn < D := by rw [← hD]; exact hbn.lt
  obtain ⟨W1, hW1⟩ : ∃ W1, (w.alloc (.deferred (some []))).alloc (.loop (R .ready)) = W1 := ⟨_, rfl⟩
  have hl : W1.heap[D + 1]? = some (.loop (R .ready)) := by
    rw [← hW1, ← hD]
    have h := World.alloc_heap_new (w.alloc (.deferred (some []))) (.loop (R .ready))
    rwa [World.size_alloc] at h
  have hd : W1.heap[D]? = some (.deferred (some [])) := by
    rw [← hW1, ← hD]
    exact (Below.heap_alloc _ _ _ (by simp)).trans (World.alloc_heap_new w _)
  have hb1 : Boxed W1 Bn t v0 := by rw [← hW1]; exact (hbn.alloc _).alloc _
  have hi1 : I [] W1 := by rw [← hW1]; exact hI.alloc _ (hI.alloc _ h0)
  -- What the rounds keep.
  obtain ⟨J, hJ⟩ : ∃ J : List α → World → Prop, ∀ pre W, J pre W ↔ (I pre W ∧ W.heap[D + 1]? = some (.loop (R .ready)) ∧ W.heap[D]? = some (.deferred (some []))) := ⟨_, fun _ _ => Iff.rfl⟩
  refine ⟨D + 1, [{ target := .collected D, args := #[] }], W1, { target := .fn (.func gf) lb, args := #[.func (.yield (D + 1)) #[] #[]] }, W1, gf, #[.func (.yield (D + 1)) #[] #[]] ++ lb, W1, ?_, ?_, ?_, ?_, fun _ => h1, ?_⟩
  · rw [← hW1, hR, ← hD]; exact run_enterLoop_outer _ _ _ _ _
  · simp only [resolve, hg]
    simp [go_sem]
  · intro f' hf
    simp [Target.leads] at hf
    subst hf
    exact hF
  · simp [invoke, go_sem, eg]
  · refine (hs (D + 1) J (fun pre W v h => ?_) (fun pre x W h hlen => ?_) W1 hb1 ((hJ _ _).2 ⟨hi1, hl, hd⟩)).mono ?_
    · obtain ⟨h2, h3, h4⟩ := (hJ _ _).1 h
      exact (hJ _ _).2 ⟨hIs _ _ _ h2, (heap_set v (by omega)).trans h3, (heap_set v (by omega)).trans h4⟩
    · obtain ⟨h2, h3, h4⟩ := (hJ _ _).1 h
      have hlt := (Array.getElem?_eq_some_iff.1 h3).1
      have hy := run_yield (P := P) (args := encs x) h3 (by rw [hR]; exact hps x)
      rw [hR] at hy
      refine ⟨fn, _, assign, body, hy, roundIn_of_wpIn hfn (hassign _ x W _ ⟨_, run_beginRound h3 (by rw [hR]), ?_⟩)⟩
      obtain ⟨W2, hW2⟩ : ∃ W2, W.putObj (D + 1) (.loop (R .busy)) = W2 := ⟨_, rfl⟩
      have e2 : W.putObj (D + 1) (.loop { R .ready with state := .busy }) = W2 := by rw [← hW2, hR, hR]
      rw [e2]
      have h5 : W2.heap[D + 1]? = some (.loop (R .busy)) := by rw [← hW2]; exact World.putObj_heap_same hlt
      have h6 : W2.heap[D]? = some (.deferred (some [])) := by rw [← hW2]; exact (World.putObj_heap_other (by omega)).trans h4
      have h7 : I pre W2 := by rw [← hW2]; exact hI.putObj _ h2 (by omega) h3 rfl
      refine wpIn_mono (hbody _ pre x W2 h7 hlen) ?_
      rintro e a3 W3 hp
      cases e with
      | normal =>
        obtain ⟨hk, hx, hi⟩ := hp
        have h8 := hk.same _ _ h5 rfl
        have h9 := hk.same _ _ h6 rfl
        refine ⟨_, _, run_endRound none h8, rfl, (hJ _ _).2 ⟨hI.putObj _ hi (by omega) h8 rfl, ?_, (World.putObj_heap_other (by omega)).trans h9⟩, fun v hv => ?_⟩
        · rw [World.putObj_heap_same (Array.getElem?_eq_some_iff.1 h8).1, hR, hR]; rfl
        · exact (World.putObj_heap_other (by omega)).trans (hx v (by rw [← hW2]; exact (World.putObj_heap_other (by omega)).trans hv))
      | ret => exact hp.elim
      | exit id => exact hp.elim
      | goto t => exact hp.elim
      | panic ch => exact hp.elim
      | outgrown => exact hp.elim
    · rintro e W2 ⟨⟨v, rfl⟩, xs, hSx, hj⟩
      obtain ⟨h2, h3, h4⟩ := (hJ _ _).1 hj
      have h5 := run_endLoop (P := P) h3 (by rw [hR]; simp)
      rw [show (R .ready).pending = none from by rw [hR]] at h5
      exact ⟨none, _, h5, hdone D xs _ (by omega) hSx (hI.putObj _ h2 (by omega) h3 rfl) ((World.putObj_heap_other (by omega)).trans h4)⟩

/-- The first j bits of n, the least significant one first. -/
def loB (n j : Nat) : List Bool := (List.range j).map fun t => decide (n / 2 ^ t % 2 = 1)
theorem loB_len (n j : Nat) : (loB n j).length = j := by simp [loB]
theorem loB_succ (n j : Nat) : loB n (j + 1) = loB n j ++ [decide (n / 2 ^ j % 2 = 1)] := by simp [loB, List.range_succ]
/-- The number of such bits. -/
def valL : List Bool → Nat
  | [] => 0
  | b :: l => b.toNat + 2 * valL l
theorem valL_snoc (b : Bool) : ∀ l : List Bool, valL (l ++ [b]) = valL l + b.toNat * 2 ^ l.length
  | [] => by simp [valL]
  | c :: l => by
    rw [List.cons_append, valL, valL, valL_snoc b l, List.length_cons, Nat.pow_succ, Nat.mul_add, ← Nat.add_assoc, Nat.mul_comm 2 (b.toNat * 2 ^ l.length), Nat.mul_assoc]
theorem valL_lo (n : Nat) : ∀ j, valL (loB n j) + 2 ^ j * (n / 2 ^ j) = n
  | 0 => by simp [loB, valL]
  | j + 1 => by
    have ih := valL_lo n j
    rw [loB_succ, valL_snoc, loB_len, Nat.pow_succ, ← Nat.div_div_eq_div_mul]
    generalize n / 2 ^ j = x at *
    have e : 2 ^ j * x = 2 ^ j * 2 * (x / 2) + 2 ^ j * (x % 2) := by
      rw [Nat.mul_assoc, ← Nat.mul_add, Nat.div_add_mod]
    by_cases h : x % 2 = 1
    · simp only [h, decide_true, Bool.toNat_true, Nat.one_mul, Nat.mul_one] at *; omega
    · have h0 : x % 2 = 0 := by omega
      simp only [h0, Nat.mul_zero, Nat.zero_ne_one, decide_false, Bool.toNat_false, Nat.zero_mul] at *; omega
theorem valL_all {n j : Nat} (h : n / 2 ^ j = 0) : valL (loB n j) = n := by
  have := valL_lo n j
  rw [h, Nat.mul_zero, Nat.add_zero] at this
  exact this

/-- What the box holds, as a number. -/
def boxN (W : World) (B : Nat) : Nat := match W.cell? ⟨B, 0, none⟩ with
  | some v => (intOf v).toNat
  | none => 0
theorem boxN_of {W : World} {B n : Nat} {t : TypeId} (h : Boxed W B t (.int .i64 n)) : boxN W B = n := by
  unfold boxN; rw [h.cell]; simp [intOf]

end Go.Proofs.YtecojpkefobgpaaGreatDoor

namespace Go.Proofs.YtecojpkefobgpaaGreatDoor
open Go.RowKit Go.Shelf
set_option linter.unusedVariables false
set_option linter.unusedSimpArgs false
attribute [local go_sem] Oper.semAt_some

theorem box_other {W : World} {B b : Nat} {t : TypeId} {v : Value} (h : Boxed W B t v) (u : Value) (hne : B ≠ b) : Boxed (W.setCell ⟨b, 0, none⟩ u) B t v := (heap_set u hne).trans h
theorem box_drew {W : World} {B : Nat} {t : TypeId} {v : Value} (h : Boxed W B t v) (k : Nat) : Boxed (W.drewN k) B t v := h
/-- What the loop's boxes hold: the base, squared; what has been multiplied. -/
structure GSt (B a c : Nat) (W : World) : Prop where
  base : Boxed W B 3 (.int .i64 a)
  acc : Boxed W (B + 1) 3 (.int .i64 c)
theorem GSt.kept {B a c : Nat} {W W' : World} {row : Option Nat} (h : GSt B a c W) (hg : W.grownBy W' row) (hr : ∀ r, row = some r → ∃ o : Obj, W.heap[r]? = some o ∧ o.isCells = false) : GSt B a c W' := by
  have key : ∀ {b : Nat} {v : Value}, Boxed W b 3 v → some b ≠ row := fun hb e => by
    obtain ⟨o, ho, hc⟩ := hr _ e.symm
    rw [show W.heap[_]? = _ from hb] at ho
    injection ho with ho
    subst ho
    cases hc
  exact ⟨h.base.kept hg (key h.base), h.acc.kept hg (key h.acc)⟩
theorem GSt.other {B a c b : Nat} {W : World} (h : GSt B a c W) (v : Value) (h1 : B + 1 < b) : GSt B a c (W.setCell ⟨b, 0, none⟩ v) := ⟨box_other h.base v (by omega), box_other h.acc v (by omega)⟩

/-- What the bits that have come make of the base. -/
theorem acc_step (a : Nat) (pre : List Bool) (b : Bool) : (if b then (a ^ valL pre % 4611686018427377339) * (a ^ 2 ^ pre.length % 4611686018427377339) % 4611686018427377339 else a ^ valL pre % 4611686018427377339) = a ^ valL (pre ++ [b]) % 4611686018427377339 := by
  rw [valL_snoc]
  cases b
  · simp
  · rw [if_pos rfl, ← Nat.mul_mod, ← Nat.pow_add]; simp
theorem base_step (a : Nat) (pre : List Bool) (b : Bool) : (a ^ 2 ^ pre.length % 4611686018427377339) * (a ^ 2 ^ pre.length % 4611686018427377339) % 4611686018427377339 = a ^ 2 ^ (pre ++ [b]).length % 4611686018427377339 := by
  rw [← Nat.mul_mod, ← Nat.pow_add]
  congr 2
  simp [Nat.pow_succ]; omega

end Go.Proofs.YtecojpkefobgpaaGreatDoor

namespace Go.Proofs.YtecojpkefobgpaaGreatDoor
open Go.RowKit
set_option linter.unusedVariables false
set_option linter.unusedSimpArgs false

/-- Whether a number is an element. -/
noncomputable def elB (a : Int) : Bool := @decide (IsEl a) (Classical.propDecidable _)
theorem elB_true {a : Int} (h : IsEl a) : elB a = true := @decide_eq_true _ (Classical.propDecidable _) h
theorem elB_false {a : Int} (h : ¬ IsEl a) : elB a = false := @decide_eq_false _ (Classical.propDecidable _) h

theorem pairV (p : Int × Int) : Value.tuple #[.int .i64 p.1, .int .i64 p.2] = .tuple #[.int .i64 p.1, .int .i64 p.2] := rfl
end Go.Proofs.YtecojpkefobgpaaGreatDoor
