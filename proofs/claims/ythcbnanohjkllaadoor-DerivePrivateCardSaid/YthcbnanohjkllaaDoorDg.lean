/-
  Package derive: the keys of a chain, one after the other.
-/
import Derived.Test.YthcbnanohjkllaaDoorDf
namespace Go.Proofs.YthcbnanohjkllaaDoor
open Go.RowKit Go.Shelf
set_option linter.unusedVariables false
set_option linter.unusedSimpArgs false
attribute [local go_sem] Oper.semAt_some

theorem wpListIn_load_row {F : Fence} {n : Nat} {P : Program} {ops : Array Oper} {rest : List Oper} {o : Oper} {a : Act} {w : World} {Q : Exit → Act → World → Prop} (hgd : o.guard = none) (ty : TypeId) (x : Operand) (ho : o.op = .load ty x)
    (g : Nat) (hx : a.eval x = .pointer (some ⟨g, 0, none⟩)) (t : TypeId) (cs : Array Value) (fr : Nat × Nat) (d : TypeDesc) (hg : w.heap[g]? = some (.cells cs t fr))
    (hu : P.underlying ty = some d) (hd : (match d with | .struct _ | .array _ _ => true | _ => false) = true) (hi : (P.info? ty).map (·.size) = some cs.size)
    (h : wpListIn F n P ops Q rest (a.put o.dst (.agg cs)) w) : wpListIn F n P ops Q (o :: rest) a w := by
  refine wpListIn_plain hgd fun K hK' => ?_
  unfold Oper.wpIn
  refine ⟨?_, ?_⟩
  · simp [Oper.about, ho]
  · rw [Oper.semAt_plain F _ _ (by rw [ho]; intro c hc'; cases hc')]
    unfold execOp
    simp only [ho, hx, Instr.loadAt, Instr.sureAddr, Sem.run_bind, Sem.run_pure, Result.andThen_ok, run_loadVar_row w g t ty cs fr d hg hu hd hi]
    exact hK' _ _ h
theorem wpListIn_storeA {F : Fence} {n : Nat} {P : Program} {w : World} {ops : Array Oper} {rest : List Oper} {o : Oper} {a : Act} {Q : Exit → Act → World → Prop} (hgd : o.guard = none) (ty : TypeId) (x y : Operand) (ho : o.op = .store ty x y)
    (g : Nat) (cells : Array Value) (hx : a.eval x = .pointer (some ⟨g, 0, none⟩)) (hy : a.eval y = .agg cells)
    (t : TypeId) (old : Array Value) (hg : w.heap[g]? = some (.cells old t (0, 0))) (hi : (P.info? ty).map (·.size) = some cells.size)
    (hold : old.size = cells.size) (h1 : cells.all (·.oneCell') = true)
    (h : ∀ w', w'.heap[g]? = some (.cells cells t (0, 0)) → w.grownBy w' (some g) → wpListIn F n P ops Q rest (a.put o.dst undef) w') : wpListIn F n P ops Q (o :: rest) a w := by
  refine wpListIn_plain hgd fun K hK' => ?_
  unfold Oper.wpIn
  refine ⟨?_, ?_⟩
  · simp [Oper.about, ho]
  · rw [Oper.semAt_plain F _ _ (by rw [ho]; intro c hc'; cases hc')]
    unfold execOp
    simp only [ho, hx, hy, Instr.storeAt, Instr.sureAddr, Sem.run_bind, Sem.run_pure, Result.andThen_ok, run_storeVar_row w g t ty old cells hg hi hold h1]
    exact hK' _ _ (h _ (setRow_heap w g _ _ t _ hg) ⟨rfl, rfl, rfl, by simp [World.setRow], fun k hk hn => setRow_other w g k _ (fun e => hn (by rw [e]))⟩)

/-- The key after some steps. -/
def stepS (K : List UInt8) : Nat → List UInt8
  | 0 => K
  | n + 1 => expS (stepS K n) lblStep []
theorem stepS_len {K : List UInt8} (h : K.length = 32) : ∀ n, (stepS K n).length = 32
  | 0 => h
  | n + 1 => expS_len _ _ _
theorem stepS_add (K : List UInt8) (m : Nat) : ∀ n, stepS (stepS K m) n = stepS K (m + n)
  | 0 => rfl
  | n + 1 => by
    show expS (stepS (stepS K m) n) lblStep [] = expS (stepS K (m + n)) lblStep []
    rw [stepS_add K m n]
/-- The keys behind it, one after the other. -/
def stepL (K : List UInt8) (n : Nat) : List (List UInt8) := (List.range n).map fun i => stepS K (i + 1)
theorem stepL_succ (K : List UInt8) (n : Nat) : stepL K (n + 1) = stepL K n ++ [stepS K (n + 1)] := by simp [stepL, List.range_succ]

/-- What the function reads: the boxes of the key and the number, and the tables. -/
structure AfC (Bk Bn n : Nat) (K : List UInt8) (W : World) : Prop where
  key : BB W Bk 24 K
  num : Boxed W Bn 3 (.int .i64 n)
  tab : Tab W

set_option maxRecDepth 100000 in
set_option maxHeartbeats 2000000 in
theorem after1_own (Bk Bn n : Nat) (K : List UInt8) (hK : K.length = 32) (hn : n ≤ 65536) :
    SeqOwn Fence.wide 4 Tryd.prog 55 #[.pointer (some ⟨Bk, 0, none⟩), .pointer (some ⟨Bn, 0, none⟩)] (fun x : List UInt8 => #[Value.agg (bvA x)]) (fun x => x.length = 32) (AfC Bk Bn n K) (stepL K n) := by
  intro l Z J hJb hJC hY W hW h0
  have HZ := Lib.hid hW
  clear hW
  have HK := Lib.hid hK
  refine callsIn_of_wp Tryd.func55 rfl trivial ?_ rfl
  simp only [Tryd.ntmps55, List.size_toArray, List.length_cons, List.length_nil, Nat.reduceAdd, Nat.reduceSub, Array.replicate_succ, Array.replicate_zero, List.push_toArray, List.append_toArray, List.nil_append, List.cons_append]
  have hC0 := Lib.hid (hJC _ _ h0)
  have HJ0 := Lib.hid h0
  have HKS := Lib.hid (key_sz _ hK)
  have HKO := Lib.hid (key_old _ hK)
  clear h0 hK
  gi_wp2_with (first
    | (refine wpListIn_load_row rfl 24 (.tmp 1) rfl Bk rfl _ (bvA K) (0, 0) _ hC0.out.key Tryd.underlying24 rfl HKS.out ?_)
    | (refine wpListIn_storeA rfl 24 (.tmp 4) (.tmp 5) rfl W.heap.size (bvA K) rfl rfl 24 _ (BB.new W _ (List.replicate 32 0)) HKS.out HKO.out (bvA_one _) ?_))
  intro W1 h1 hg1
  have hbW : Below W.heap.size W W1 := grown_below ((Below.refl _ _).alloc (Nat.le_refl _) _) hg1 (Nat.le_refl _) (by simp)
  have HJ1 := Lib.hid (hJb _ _ _ HJ0.out (HZ.out ▸ hbW))
  have HB1 : Hid (BB W1 W.heap.size 24 (stepS K 0)) := Lib.hid h1
  have HJ1' : Hid (J (stepL K 0) W1) := HJ1
  have HC1 := Lib.hid (hJC _ _ HJ1.out)
  clear h1 hg1 hbW HJ1 HJ0 hC0
  rw [HZ.out] at HB1 ⊢
  clear HZ W
  have cn := HC1.out.num.cell
  have HLS := Lib.hid (fun j => stepS_len HK.out j)
  have HEX : Hid (∀ j W, Tab W → Calls Tryd.prog 13 #[.agg (bvA (stepS K j)), .string ⟨#[115, 116, 101, 112]⟩, .slice none 0 0] W fun e w' => e = .returned (.agg (bvA (stepS K (j + 1)))) ∧ Below W.heap.size W w') :=
    Lib.hid (fun j W hT => Expand_any (stepS K j) (stepS_len HK.out j) ⟨#[115, 116, 101, 112]⟩ none 0 [] W hT (by decide) (RdM.nil _ _ _) (by decide) (fun _ h => by cases h))
  have HSU := Lib.hid (stepL_succ K)
  gi_wp2
  gi_loopw [7] (fun p wr => ∃ j : Nat, j ≤ n ∧ p = .int .i64 j ∧ J (stepL K j) wr ∧ BB wr Z 24 (stepS K j)) (fun p _ => n - (intOf p).toNat)
  case atStart => exact ⟨0, Nat.zero_le _, rfl, HJ1'.out, HB1.out⟩
  case round =>
    clear HJ1' HB1 HC1 cn HKS HKO
    obtain ⟨j, hj, rfl, hJ, hB⟩ := hrel
    have HJ := Lib.hid hJ
    have HB := Lib.hid hB
    have HC := Lib.hid (hJC _ _ hJ)
    clear hJ hB
    by_cases hlt : j < n
    · have f1 : decide ((j : Int) < (n : Int)) = true := decide_eq_true (by omega)
      have HLj := Lib.hid (HLS.out j)
      have HLj1 := Lib.hid (HLS.out (j + 1))
      have HEj := Lib.hid (HEX.out j)
      have HSj := Lib.hid (HSU.out j)
      obtain ⟨y, hy0⟩ : ∃ y, stepS K (j + 1) = y := ⟨_, rfl⟩
      rw [hy0] at HLj1 HEj HSj
      have HYY := Lib.hid hy0.symm
      clear hy0
      generalize stepS K j = x at *
      gi_wp2_with (first
        | (refine wpListIn_load_row rfl 24 (.tmp 4) rfl Z rfl _ (bvA x) (0, 0) _ HB.out Tryd.underlying24 rfl (key_sz _ HLj.out) ?_)
        | (refine ⟨trivial, ?_⟩; gi_at_call 13; refine (callsIn_wide.2 (HEj.out _ HC.out.tab)).mono ?_; rintro e w1 ⟨rfl, hb1⟩; refine Hid.out ?_))
      refine Lib.hid ?_
      have HB1 := Lib.hid (HB.out.below hb1 HB.out.lt)
      have hz := HB.out.lt
      have HJ1 := Lib.hid (hJb _ _ _ HJ.out (hb1.mono (Nat.le_of_lt hz)))
      gi_wp2_with (refine wpListIn_storeA rfl 24 (.tmp 4) (.tmp 10) rfl Z (bvA y) rfl rfl 24 _ HB1.out (key_sz _ HLj1.out) (by rw [bvA_size, bvA_size, HLj.out, HLj1.out]) (bvA_one _) ?_)
      intro w2 h2 hg2
      have HB2 : Hid (BB w2 Z 24 y) := Lib.hid h2
      have hz2 := HB2.out.lt
      have hz1 := HB1.out.lt
      have HJ2 := Lib.hid (hJb _ _ _ HJ1.out (grown_below (Below.refl _ _) hg2 (Nat.le_refl _) (Nat.le_of_lt hz1)))
      clear hb1 HB HB1 HJ HJ1 HC h2 hg2 hz hz1
      obtain ⟨fn, tmps, assign, body, hy, hRR⟩ := hY _ y w2 HJ2.out HLj1.out (Nat.le_of_lt hz2)
      gi_wp2_with (refine wpListIn_load_row rfl 24 (.tmp 4) rfl Z rfl _ (bvA y) (0, 0) _ HB2.out Tryd.underlying24 rfl (key_sz _ HLj1.out) ?_)
      refine hRR.mono ?_
      rintro e w3 ⟨rfl, hJ3, hk3, hz3⟩
      have HB3 : Hid (BB w3 Z 24 y) := Lib.hid ((hk3 Z (Nat.le_refl _) hz2).trans HB2.out)
      have HJ3 : Hid (J (stepL K (j + 1)) w3) := Lib.hid (by rw [HSj.out]; exact hJ3)
      clear hJ3 hk3 hz3 hRR hy HB2 HJ2 hz2
      gi_wp2
      go_roundw
      case rel => exact ⟨j + 1, by omega, by go_num, HJ3.out, HYY.out ▸ HB3.out⟩
      case measure => simp [intOf]; omega
    · obtain rfl : j = n := by omega
      have f1 : decide ((j : Int) < (j : Int)) = false := decide_eq_false (by omega)
      gi_wp2
      go_end0
      exact ⟨⟨_, rfl⟩, HJ.out⟩
end Go.Proofs.YthcbnanohjkllaaDoor
