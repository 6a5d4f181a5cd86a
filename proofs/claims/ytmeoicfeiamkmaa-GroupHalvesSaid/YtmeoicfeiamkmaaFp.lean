/-
  Package field's powers: the iterator over an exponent's bits, the closure that multiplies, the loop over both.
-/
import Derived.Test.YtmeoicfeiamkmaaFb
import Derived.RangeFuncNested
import Derived.RangeFuncBound
import Derived.RangeFuncCalls
import Derived.RangeFuncLeaves
import Derived.Shelf.Abstract
import Derived.Shelf.RegionOpen
import Derived.OwnWalkIn
import Derived.TacticsInMore
import Derived.LoopNIn
import Derived.LoopIn
import Derived.Laws.EntriesVeiled
namespace Go.Proofs.Ytmeoicfeiamkmaa
open Go.RowKit Go.Shelf
set_option linter.unusedVariables false
set_option linter.unusedSimpArgs false
attribute [local go_sem] Oper.semAt_some

/-- The bits of n that have come behind j rounds, k bits in all, the most significant one first. -/
def upB (n k j : Nat) : List Bool := (List.range j).map fun t => decide (n / 2 ^ (k - 1 - t) % 2 = 1)
theorem upB_len (n k j : Nat) : (upB n k j).length = j := by simp [upB]
theorem upB_succ (n k j : Nat) : upB n k (j + 1) = upB n k j ++ [decide (n / 2 ^ (k - 1 - j) % 2 = 1)] := by simp [upB, List.range_succ]
/-- The number of bits. -/
def valB (l : List Bool) : Nat := l.foldl (fun v b => 2 * v + b.toNat) 0
theorem valB_snoc (l : List Bool) (b : Bool) : valB (l ++ [b]) = 2 * valB l + b.toNat := by simp [valB]
theorem valB_up (n k : Nat) (hn : n < 2 ^ k) : ∀ j, j ≤ k → valB (upB n k j) = n / 2 ^ (k - j) := by
  intro j
  induction j with
  | zero => intro _; rw [Nat.sub_zero, Nat.div_eq_of_lt hn]; rfl
  | succ j ih =>
    intro hj
    rw [upB_succ, valB_snoc, ih (by omega)]
    have e : k - j = (k - 1 - j) + 1 := by omega
    have e2 : k - (j + 1) = k - 1 - j := by omega
    rw [e2, e, Nat.pow_succ, ← Nat.div_div_eq_div_mul]
    generalize n / 2 ^ (k - 1 - j) = x
    by_cases h : x % 2 = 1
    · simp only [h, decide_true, Bool.toNat_true]; omega
    · simp only [h, decide_false, Bool.toNat_false]; omega

theorem binary_any (n : Int) (w : World) :
    Calls Try.prog 45 #[.int .i64 n] w fun e w' => e = .returned (.func (.func 47) #[] #[.pointer (some ⟨w.heap.size, 0, none⟩)]) ∧ w' = w.alloc (.cells #[.int .i64 n] 3) := by
  go_enter Try.func45, Try.ntmps45
  go_wp2_with fail
  go_ret
  exact ⟨rfl, rfl⟩

theorem bitLenAux_le : ∀ (f m x : Nat), x < 2 ^ m → Lib.bitLenAux f x ≤ m := by
  intro f
  induction f with
  | zero => intro m x _; exact Nat.zero_le _
  | succ f ih =>
    intro m x h
    unfold Lib.bitLenAux
    by_cases h0 : x = 0
    · rw [if_pos h0]; exact Nat.zero_le _
    · rw [if_neg h0]
      cases m with
      | zero => simp at h; exact absurd h h0
      | succ m => have := ih m (x / 2) (by rw [Nat.pow_succ] at h; omega); omega
theorem lt_bitLenAux : ∀ (f x : Nat), x < 2 ^ f → x < 2 ^ Lib.bitLenAux f x := by
  intro f
  induction f with
  | zero => intro x h; exact h
  | succ f ih =>
    intro x h
    unfold Lib.bitLenAux
    by_cases h0 : x = 0
    · rw [if_pos h0, h0]; decide
    · rw [if_neg h0]
      have := ih (x / 2) (by rw [Nat.pow_succ] at h; omega)
      rw [Nat.add_comm, Nat.pow_succ]; omega
theorem bitLen_lt (n : Nat) (hn : n < 9223372036854775808) : Lib.bitLen n ≤ 63 ∧ n < 2 ^ Lib.bitLen n :=
  ⟨bitLenAux_le 64 63 n (by omega), lt_bitLenAux 64 n (by omega)⟩

theorem and_i64 (a b : Nat) (ha : a < 9223372036854775808) (hb : b < 9223372036854775808) : bits .and .i64 (a : Int) (b : Int) = ((a &&& b : Nat) : Int) := by
  have hx : a &&& b < 2 ^ 63 := Nat.and_lt_two_pow _ (by omega)
  have h1 : (BitVec.ofInt 64 (a : Int)).toNat = a := by
    rw [BitVec.ofInt_natCast, BitVec.toNat_ofNat]; exact Nat.mod_eq_of_lt (by omega)
  have h2 : (BitVec.ofInt 64 (b : Int)).toNat = b := by
    rw [BitVec.ofInt_natCast, BitVec.toNat_ofNat]; exact Nat.mod_eq_of_lt (by omega)
  show IntKind.i64.wrap ((BitVec.ofInt 64 (a : Int) &&& BitVec.ofInt 64 (b : Int)).toNat : Int) = _
  rw [BitVec.toNat_and, h1, h2]
  exact wrapI _ (by omega) (by omega)
theorem bit_of (n m : Nat) (hn : n < 9223372036854775808) (hm : m ≤ 63) : (bits .and .i64 ((n : Int) / 2 ^ m) 1 == 1) = decide (n / 2 ^ m % 2 = 1) := by
  have e : (n : Int) / 2 ^ m = ((n / 2 ^ m : Nat) : Int) := by simp
  rw [e]
  have hx : n / 2 ^ m < 9223372036854775808 := Nat.lt_of_le_of_lt (Nat.div_le_self _ _) hn
  generalize n / 2 ^ m = x at *
  have e2 : bits .and .i64 (x : Int) 1 = ((x % 2 : Nat) : Int) := by
    have h := and_i64 x 1 hx (by omega)
    rw [Nat.and_one_is_mod] at h; exact h
  rw [e2]
  by_cases h : x % 2 = 1
  · rw [h]; rfl
  · have h0 : x % 2 = 0 := by omega
    rw [h0]; rfl

theorem binary1_in (l Bn n : Nat) (hn : n < 9223372036854775808) (J Jx : List Bool → World → Prop)
    (hY : ∀ pre x W, J pre W → pre.length < 64 → YieldAt Fence.wide 3 Try.prog l #[.bool x] W fun e W' =>
      (e = .returned (.bool true) ∧ J (pre ++ [x]) W' ∧ (W.cell? ⟨Bn, 0, none⟩ = some (.int .i64 n) → W'.cell? ⟨Bn, 0, none⟩ = some (.int .i64 n))) ∨ (e = .returned (.bool false) ∧ Jx (pre ++ [x]) W'))
    (W : World) (hc : W.cell? ⟨Bn, 0, none⟩ = some (.int .i64 n)) (h0 : J [] W) :
    CallsIn Fence.wide 4 Try.prog 47 #[.func (.yield l) #[] #[], .pointer (some ⟨Bn, 0, none⟩)] W fun e W' => (∃ v, e = .returned v) ∧
      ((∃ ys, ys = upB n (Lib.bitLen n) (Lib.bitLen n) ∧ J ys W') ∨ (∃ pre, pre <+: upB n (Lib.bitLen n) (Lib.bitLen n) ∧ Jx pre W')) := by
  obtain ⟨hk, hnk⟩ := bitLen_lt n hn
  have hL := Try.bits_Len n
  rw [Int.toNat_natCast] at hL
  have c1 := wrapU (n : Int) (by omega) (by omega)
  obtain ⟨k, hkd⟩ : ∃ k, Lib.bitLen n = k := ⟨_, rfl⟩
  rw [hkd] at hk hnk hL ⊢
  have c2 := wrapI ((k : Int) - 1) (by omega) (by omega)
  refine callsIn_of_wp Try.func47 rfl trivial ?_ rfl
  simp only [Try.ntmps47, List.size_toArray, List.length_cons, List.length_nil, Nat.reduceAdd, Nat.reduceSub, Array.replicate_succ, Array.replicate_zero, List.push_toArray, List.append_toArray, List.nil_append, List.cons_append]
  gi_wp2_with (refine ⟨trivial, ?_⟩; gi_at_call 48; refine (callsIn_wide.2 (hL _ (by omega) (by omega))).mono ?_; rintro e w' ⟨rfl, hw⟩; rw [hw]; clear hw w')
  gi_loopw [3] (fun p wr => ∃ j : Nat, j ≤ k ∧ p = .int .i64 ((k : Int) - 1 - j) ∧ J (upB n k j) wr ∧ wr.cell? ⟨Bn, 0, none⟩ = some (.int .i64 n))
    (fun p wr => (intOf p + 1).toNat)
  case atStart => exact ⟨0, by omega, by simp, h0, hc⟩
  case round =>
    obtain ⟨j, hj, rfl, hJ, hcr⟩ := hrel
    by_cases hlt : j < k
    · have f1 : decide (0 ≤ (k : Int) - 1 - j) = true := decide_eq_true (by omega)
      obtain ⟨b, hb⟩ : ∃ b, decide (n / 2 ^ (k - 1 - j) % 2 = 1) = b := ⟨_, rfl⟩
      have hbit := bit_of n (k - 1 - j) hn (by omega)
      rw [hb] at hbit
      have HS := upB_succ n k j
      rw [hb] at HS
      obtain ⟨fn, tmps, assign, body, hy, hR⟩ := hY (upB n k j) b wr hJ (by rw [upB_len]; omega)
      gi_wp2
      refine hR.mono ?_
      rintro e W3 (⟨rfl, hJ3, hk3⟩ | ⟨rfl, hJx3⟩)
      · have hc3 : W3.cell? ⟨Bn, 0, none⟩ = some (.int .i64 n) := hk3 hcr
        have d1 := wrapI ((k : Int) - 1 - j - 1) (by omega) (by omega)
        gi_wp2
        go_roundw
        case rel => exact ⟨j + 1, by omega, by congr 1; omega, by rw [HS]; exact hJ3, hc3⟩
        case measure => simp [intOf]; omega
      · gi_wp2
        refine bodyPost_ret (results_none rfl _ _ _) rfl ?_
        refine ⟨⟨_, rfl⟩, .inr ⟨upB n k j ++ [b], ?_, hJx3⟩⟩
        rw [← HS]
        exact ⟨(List.range (k - (j + 1))).map fun t => decide (n / 2 ^ (k - 1 - (j + 1 + t)) % 2 = 1), by
          have e : k = (j + 1) + (k - (j + 1)) := by omega
          conv => rhs; rw [upB]
          conv => rhs; rw [e, List.range_add, List.map_append, List.map_map]
          rw [upB, ← e]; rfl⟩
    · obtain rfl : j = k := by omega
      have f1 : decide (0 ≤ (j : Int) - 1 - j) = false := decide_eq_false (by omega)
      gi_wp2
      go_end0
      exact ⟨⟨_, rfl⟩, .inl ⟨_, rfl, hJ⟩⟩

theorem mult_any (Bc c f : Nat) (hc : c < 2305843009213688669) (hf : f < 2305843009213688669) (w : World) (hcell : w.cell? ⟨Bc, 0, none⟩ = some (.int .i64 c)) (hfr : w.frozen? ⟨Bc, 0, none⟩ = false) :
    Calls Try.prog 44 #[.int .i64 f, .pointer (some ⟨Bc, 0, none⟩)] w fun e w' => e = .returned (.tuple #[]) ∧ ∃ k, w' = (w.drewN k).setCell ⟨Bc, 0, none⟩ (.int .i64 ((c * f % 2305843009213688669 : Nat) : Int)) := by
  go_enter Try.func44, Try.ntmps44
  go_wp2_with (go_at_call 34; refine (product_any _ _ (by assumption) (by assumption) _).mono ?_; rintro e w' ⟨rfl, k, hw⟩; rw [hw]; clear hw w')
  go_end0
  exact ⟨rfl, _, rfl⟩

theorem cellNew (W : World) (v : Value) (t : TypeId) : (W.alloc (.cells #[v] t)).cell? ⟨W.heap.size, 0, none⟩ = some v ∧ (W.alloc (.cells #[v] t)).frozen? ⟨W.heap.size, 0, none⟩ = false := by simp
theorem cellAlloc {W : World} {a : Addr} {v : Value} (o : Obj) (h : W.cell? a = some v) : (W.alloc o).cell? a = some v := cell_kept h (World.grownBy_alloc W o none) (fun r e => by cases e)
theorem frozenAlloc {W : World} {a : Addr} {v : Value} (o : Obj) (h : W.cell? a = some v) (hf : W.frozen? a = false) : (W.alloc o).frozen? a = false := (frozen_kept h (World.grownBy_alloc W o none) (fun r e => by cases e)).trans hf
/-- What the loop's blocks hold: the base, what has been multiplied, the closure; the exponent. -/
structure PowSt (B a n c : Nat) (W : World) : Prop where
  base : W.cell? ⟨B, 0, none⟩ = some (.int .i64 a)
  acc : W.cell? ⟨B + 1, 0, none⟩ = some (.int .i64 c)
  fro : W.frozen? ⟨B + 1, 0, none⟩ = false
  clo : W.cell? ⟨B + 1 + 1, 0, none⟩ = some (.func (.func 44) #[] #[.pointer (some ⟨B + 1, 0, none⟩)])
  ex : W.cell? ⟨B + 1 + 1 + 1, 0, none⟩ = some (.int .i64 n)

theorem KeepsOthers.drewN (W : World) (k : Nat) : KeepsOthers W (W.drewN k) := ⟨Nat.le_refl _, fun _ _ h _ => h⟩
theorem PowSt.step {B a n c : Nat} {W : World} (h : PowSt B a n c W) (k d : Nat) : PowSt B a n d ((W.drewN k).setCell ⟨B + 1, 0, none⟩ (.int .i64 d)) := by
  have hne : ∀ {x : Nat}, x ≠ B + 1 → (⟨B + 1, 0, none⟩ : Addr) ≠ ⟨x, 0, none⟩ := fun hx e => hx (by injection e with e1; omega)
  refine ⟨?_, ?_, ?_, ?_, ?_⟩
  · rw [World.cell?_setCell_other _ _ _ _ (hne (by omega))]; exact h.base
  · exact World.cell?_setCell_same _ _ _ h.acc
  · rw [World.frozen?_setCell]; exact h.fro
  · rw [World.cell?_setCell_other _ _ _ _ (hne (by omega))]; exact h.clo
  · rw [World.cell?_setCell_other _ _ _ _ (hne (by omega))]; exact h.ex
theorem PowSt.kept {B a n c : Nat} {W W' : World} {row : Option Nat} (h : PowSt B a n c W) (hg : W.grownBy W' row) (hr : ∀ r, row = some r → ∃ o : Obj, W.heap[r]? = some o ∧ o.isCells = false) : PowSt B a n c W' :=
  ⟨cell_kept h.base hg hr, cell_kept h.acc hg hr, (frozen_kept h.acc hg hr).trans h.fro, cell_kept h.clo hg hr, cell_kept h.ex hg hr⟩

theorem mult_st (B a n c f : Nat) (hc : c < 2305843009213688669) (hf : f < 2305843009213688669) (w : World) (h : PowSt B a n c w) :
    Calls Try.prog 44 #[.int .i64 f, .pointer (some ⟨B + 1, 0, none⟩)] w fun e w' => e = .returned (.tuple #[]) ∧ PowSt B a n (c * f % 2305843009213688669) w' ∧ KeepsOthers w w' ∧ Below B w w' := by
  refine (mult_any (B + 1) c f hc hf w h.acc h.fro).mono ?_
  rintro e w' ⟨he, k, rfl⟩
  exact ⟨he, h.step k _, (KeepsOthers.drewN w k).trans (KeepsOthers.setCell _ _ _), (below_drewN (Below.refl B w) k).setCell (p := ⟨B + 1, 0, none⟩) (Nat.le_succ _) _⟩

theorem binary1_stops (Bn n : Nat) (hn : n < 9223372036854775808) (w : World) (hc : w.cell? ⟨Bn, 0, none⟩ = some (.int .i64 n)) :
    SeqStopsK Fence.wide 4 Try.prog 47 #[.pointer (some ⟨Bn, 0, none⟩)] (fun x : Bool => #[Value.bool x]) (fun A B => A.cell? ⟨Bn, 0, none⟩ = some (.int .i64 n) → B.cell? ⟨Bn, 0, none⟩ = some (.int .i64 n)) (fun ys => ys = upB n (Lib.bitLen n) (Lib.bitLen n)) (fun pre => pre <+: upB n (Lib.bitLen n) (Lib.bitLen n)) 64 w := fun l J Jx W hW _ _ hY h0 =>
  binary1_in l Bn n hn J Jx hY W ((hW.cell (p := ⟨Bn, 0, none⟩) (by
    obtain ⟨o, ho, _⟩ := cells_of_cell hc
    exact (Array.getElem?_eq_some_iff.1 ho).1)).trans hc) h0

/-- What the bits that have come make of the base. -/
theorem pow_bit (a v : Nat) (b : Bool) : (if b then (a ^ v % 2305843009213688669) * (a ^ v % 2305843009213688669) % 2305843009213688669 * a % 2305843009213688669 else (a ^ v % 2305843009213688669) * (a ^ v % 2305843009213688669) % 2305843009213688669) = a ^ (2 * v + b.toNat) % 2305843009213688669 := by
  have e : (a ^ v % 2305843009213688669) * (a ^ v % 2305843009213688669) % 2305843009213688669 = a ^ (2 * v) % 2305843009213688669 := by
    rw [← Nat.mul_mod, ← Nat.pow_add, Nat.two_mul]
  rw [e]
  cases b
  · rfl
  · simp only [if_true, Bool.toNat_true]
    rw [Nat.pow_succ, Nat.mod_mul_mod]

set_option maxRecDepth 100000 in
set_option maxHeartbeats 2000000 in
theorem power_any (a n : Nat) (ha : a < 2305843009213688669) (hn : n < 9223372036854775808) (w : World) :
    Calls Try.prog 41 #[.int .i64 a, .int .i64 n] w fun e w' => e = .returned (.int .i64 ((a ^ n % 2305843009213688669 : Nat) : Int)) ∧ Below w.heap.size w w' := by
  obtain ⟨G, hG⟩ : ∃ G, a ^ n % 2305843009213688669 = G := ⟨_, rfl⟩
  rw [hG]
  have hv := valB_up n (Lib.bitLen n) (bitLen_lt n hn).2 (Lib.bitLen n) (Nat.le_refl _)
  rw [Nat.sub_self, Nat.pow_zero, Nat.div_one] at hv
  have HG : Hid (a ^ valB (upB n (Lib.bitLen n) (Lib.bitLen n)) % 2305843009213688669 = G) := Lib.hid (by rw [hv]; exact hG)
  clear hG hv
  refine (callsIn_wide (n := 5)).1 ?_
  refine callsIn_of_wp_marks Try.func41 rfl trivial ?_ rfl
  simp only [Try.ntmps41, List.size_toArray, List.length_cons, List.length_nil, Nat.reduceAdd, Nat.reduceSub, Array.replicate_succ, Array.replicate_zero, List.push_toArray, List.append_toArray, List.nil_append, List.cons_append]
  gi_wp2_with (refine ⟨trivial, ?_⟩; gi_at_call 45; refine (callsIn_wide.2 (binary_any _ _)).mono ?_; rintro e w' ⟨rfl, rfl⟩)
  generalize hW0 : (((w.alloc (Obj.cells #[Value.int IntKind.i64 (a : Int)] 3)).alloc (Obj.cells #[Value.int IntKind.i64 1] 3)).alloc (Obj.cells #[Value.func (Fn.func 44) #[] #[Value.pointer (some { block := w.heap.size + 1, off := 0 })]] 54)).alloc (Obj.cells #[Value.int IntKind.i64 (n : Int)] 3) = W0
  have hB0 : Below w.heap.size w W0 := by
    rw [← hW0]
    exact ((((Below.refl _ w).alloc (Nat.le_refl _) _).alloc (by simp) _).alloc (by simp; omega) _).alloc (by simp; omega) _
  have hsz : W0.heap.size = w.heap.size + 1 + 1 + 1 + 1 := by rw [← hW0]; simp
  have hst : PowSt w.heap.size a n 1 W0 := by
    rw [← hW0]
    have c0 := cellNew w (.int .i64 a) 3
    have c1 := cellNew (w.alloc (Obj.cells #[Value.int IntKind.i64 (a : Int)] 3)) (.int .i64 1) 3
    have c2 := cellNew ((w.alloc (Obj.cells #[Value.int IntKind.i64 (a : Int)] 3)).alloc (Obj.cells #[Value.int IntKind.i64 1] 3)) (.func (.func 44) #[] #[.pointer (some ⟨w.heap.size + 1, 0, none⟩)]) 54
    have c3 := cellNew (((w.alloc (Obj.cells #[Value.int IntKind.i64 (a : Int)] 3)).alloc (Obj.cells #[Value.int IntKind.i64 1] 3)).alloc (Obj.cells #[Value.func (Fn.func 44) #[] #[Value.pointer (some { block := w.heap.size + 1, off := 0 })]] 54)) (.int .i64 n) 3
    simp only [World.size_alloc] at c1 c2 c3
    exact ⟨cellAlloc _ (cellAlloc _ (cellAlloc _ c0.1)), cellAlloc _ (cellAlloc _ c1.1), frozenAlloc _ (cellAlloc _ c1.1) (frozenAlloc _ c1.1 c1.2), cellAlloc _ c2.1, c3.1⟩
  clear hW0
  refine wpIn_rangeFunc_ownF rfl (by decide) (gf := 47) (lb := #[.pointer (some ⟨w.heap.size + 1 + 1 + 1, 0, none⟩)]) rfl trivial (enters_of Try.func47 (by kernel_rfl) rfl)
    (binary1_stops (w.heap.size + 1 + 1 + 1) n hn W0 hst.ex) (fun h1 h2 h => h2 (h1 h)) (fun W l o o' hl h hc _ hcell => cell_kept hcell (grownBy_putObj' W l o') (fun r e => by cases e; exact ⟨o, h, hc⟩)) (Below.refl _ _) (fun _ => rfl)
    (fun pre W => PowSt w.heap.size a n (a ^ valB pre % 2305843009213688669) W ∧ Below w.heap.size w W)
    (fun _ _ _ => False)
    (OwnFrom.and (Own.from (fun s A B row hs hg hr => hs.kept hg hr) _) (ownFrom_below (Nat.le_refl _) (by omega)))
    (fun _ _ _ _ _ hs _ _ => hs)
    ⟨by rw [show a ^ valB [] % 2305843009213688669 = 1 from rfl]; exact hst, hB0⟩
    (fun x => { tmps := #[.int .i64 a, .int .i64 n, .pointer (some ⟨w.heap.size, 0, none⟩), undef, .int .i64 0, .pointer (some ⟨w.heap.size + 1, 0, none⟩), .pointer (some ⟨w.heap.size + 1 + 1, 0, none⟩), .bool x, .func (.func 44) #[] #[.pointer (some ⟨w.heap.size + 1, 0, none⟩)], .int .i64 n, .func (.func 47) #[] #[.pointer (some ⟨w.heap.size + 1 + 1 + 1, 0, none⟩)], .bool x, undef, undef, undef, undef, undef, undef, undef, undef], defers := [] }) ?assign ?body ?done ?stop
  case assign =>
    intro l x W K hK
    gi_wp2
    exact hK
  case body =>
    rintro l pre x W ⟨hs, hB⟩ _
    have hm : a ^ valB pre % 2305843009213688669 < 2305843009213688669 := Nat.mod_lt _ (by decide)
    have HP := Lib.hid (pow_bit a (valB pre) x)
    rw [← valB_snoc] at HP
    generalize a ^ valB pre % 2305843009213688669 = c at *
    have hm2 : c * c % 2305843009213688669 < 2305843009213688669 := Nat.mod_lt _ (by decide)
    have c1 := hs.acc
    have c2 := hs.clo
    cases x
    · have HP2 : Hid (c * c % 2305843009213688669 = a ^ valB (pre ++ [false]) % 2305843009213688669) := HP
      clear HP
      gi_wp2_with (refine ⟨trivial, ?_⟩; gi_at_call 44; refine (CallsIn.inRound l (callsIn_wide.2 (mult_st _ _ _ _ _ hm hm _ hs))).mono ?_; rintro e W1 ⟨rfl, hs1, hk1, hb1⟩)
      refine ⟨hk1, fun _ => hs1.ex, ?_, hB.trans hb1⟩
      rw [← HP2.out]; exact hs1
    · have HP2 : Hid (c * c % 2305843009213688669 * a % 2305843009213688669 = a ^ valB (pre ++ [true]) % 2305843009213688669) := HP
      clear HP
      gi_wp2_with (first
        | (refine ⟨trivial, ?_⟩; gi_at_call 44; refine (CallsIn.inRound l (callsIn_wide.2 (mult_st _ _ _ _ _ hm hm _ hs))).mono ?_; clear hs c1 c2; rintro e W1 ⟨rfl, hs1, hk1, hb1⟩; have c1 := hs1.acc; have c2 := hs1.clo; have c3 := hs1.base)
        | (refine ⟨trivial, ?_⟩; gi_at_call 44; refine (CallsIn.inRound l (callsIn_wide.2 (mult_st _ _ _ _ _ hm2 ha _ hs1))).mono ?_; rintro e W2 ⟨rfl, hs2, hk2, hb2⟩))
      refine ⟨hk1.trans hk2, fun _ => hs2.ex, ?_, (hB.trans hb1).trans hb2⟩
      rw [← HP2.out]; exact hs2
  case done =>
    rintro D ys W hD rfl ⟨hs, hB⟩ hK
    rw [HG.out] at hs
    have c1 := hs.acc
    gi_wp2
    refine ⟨by simp, .inl ⟨_, _, rfl, run_takeDeferred hK, ?_⟩⟩
    exact ⟨_, results_tmp rfl _ _ _, rfl, hB.trans (belowK_b (w := w) (Nat.le_refl _) W D _ _ (by omega) hK rfl rfl)⟩
  case stop =>
    rintro D c pre W _ _ h _
    exact h.elim
end Go.Proofs.Ytmeoicfeiamkmaa
