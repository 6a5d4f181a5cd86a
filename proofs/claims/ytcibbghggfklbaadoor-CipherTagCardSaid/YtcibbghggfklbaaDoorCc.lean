/-
  slices.Grow of nil and slices.Concat of slices of bytes.
-/
import Derived.Test.YtcibbghggfklbaaDoorCk
import Derived.Lib.AppendZeros
namespace Go.Proofs.YtcibbghggfklbaaDoor
open Go.RowKit
set_option linter.unusedVariables false
set_option linter.unusedSimpArgs false

theorem run_appZeros (n : Nat) (h0 : 0 < n) (hn : n ≤ 70368744177664) (ty : TypeId) (W : World) : ∃ cells, cells.size = grownCap W n 0 5 ∧ (Builtin.append_ #[28, 3] ty #[.slice none 0 0, .int .i64 (n : Int)]).run Tryd.prog W = .ok (.slice (some ⟨W.heap.size, 0, none⟩) n (grownCap W n 0 5)) (W.drew.alloc (.cells cells 5)) := by
  obtain ⟨i0, hi, hz0, hz1, hz2⟩ := info_parts byteInfo
  have h := Lib.run_append_nil_zeros (P := Tryd.prog) W 28 3 ty 5 i0 (.int .u8 0) .i64 .i64 Tryd.underlying28 Tryd.underlying3 hi hz0 n h0 (by omega) (by omega) (by rw [hz2]; omega)
  refine ⟨_, ?_, h⟩
  have hg := grownCap_ge W n 0 5
  rw [Array.size_append, size_zeroCells, size_zeroCells]
  show n * 1 + (grownCap W n 0 5 - n) * 1 = _
  omega

theorem wpList_appZ {ops : Array Oper} {rest : List Oper} {o : Oper} {a : Act} {w : World} {Q : Exit → Act → World → Prop} (hgd : o.guard = none) (s x : Operand)
    (ho : o.op = .call { callee := .builtin .append, args := #[s, x], argTypes := #[28, 3] }) (n : Nat) (h0 : 0 < n) (hn : n ≤ 70368744177664)
    (hs : a.eval s = .slice none 0 0) (hx : a.eval x = .int .i64 (n : Int))
    (h : ∀ c w', OwnB w.heap.size w' (.slice (some ⟨w.heap.size, 0, none⟩) 0 c) [] → n ≤ c → Below w.heap.size w w' → wpList Tryd.prog ops Q rest (a.put o.dst (.slice (some ⟨w.heap.size, 0, none⟩) n c)) w') : wpList Tryd.prog ops Q (o :: rest) a w := by
  refine wpList_plain hgd fun K hK => ?_
  obtain ⟨cells, hcs, hrun⟩ := run_appZeros n h0 hn o.type w
  have hg1 := grownCap_ge w n 0 5
  have hg2 := grownCap_le_maxLen w n 0 5 (by unfold maxLen; omega)
  unfold Oper.wp execOp
  simp only [ho, resolve, invoke, builtin, Sem.run_bind, Sem.run_pure, Result.andThen_ok, List.map_toArray, List.map_cons, List.map_nil, hs, hx, hrun]
  exact hK _ _ (h _ _ (World.ownsRow_made w.drew cells _ (Nat.le_refl _) hg2 (by rw [hcs, Nat.mul_one])) hg1 (((Below.refl _ _).drew).alloc (Nat.le_refl _) _))

set_option maxRecDepth 100000 in
theorem grow_nil (n : Nat) (h0 : 0 < n) (hn : n ≤ 70368744177664) (w : World) :
    Calls Tryd.prog 42 #[.slice none 0 0, .int .i64 (n : Int)] w fun e w' => ∃ v, e = .returned v ∧ OwnB w.heap.size w' v [] ∧ Below w.heap.size w w' := by
  have f1 : decide ((n : Int) < 0) = false := decide_eq_false (by omega)
  have f2 : decide ((0 : Int) < (n : Int)) = true := decide_eq_true (by omega)
  have i1 : (n : Int) ≤ 70368744177664 := by omega
  have HH := Lib.hid (And.intro h0 hn)
  clear hn
  go_enter Tryd.func42, Tryd.ntmps42
  go_wp2_with (refine wpList_appZ rfl (.tmp 20) (.tmp 21) rfl n HH.out.1 HH.out.2 rfl rfl ?_; intro c w1 ho1 hc1 hb1; have i2 : (0 : Int) ≤ (c : Int) := by omega)
  go_ret
  exact ⟨_, rfl, ho1, hb1⟩

/-- Block b holds slices of bytes. -/
def RdVs (w : World) (b : Nat) (ps : List (List UInt8)) : Prop := ∀ j (h : j < ps.length), ∃ v, w.cell? ⟨b, j, none⟩ = some v ∧ RdV w v ps[j]
theorem RdVs.call {w w' : World} {b : Nat} {ps : List (List UInt8)} (h : RdVs w b ps) (hB : b < w.heap.size) (hb : Below w.heap.size w w') : RdVs w' b ps := fun j hj => by
  obtain ⟨v, h1, h2⟩ := h j hj
  exact ⟨v, (hb.cell (p := ⟨b, j, none⟩) hB).trans h1, h2.call hb⟩

set_option maxRecDepth 100000 in
set_option maxHeartbeats 1000000 in
theorem concat_any (b : Nat) (ps : List (List UInt8)) (cap : Nat) (w : World) (hB : b < w.heap.size) (h : RdVs w b ps) (hps : ps.length ≤ 1000) (h0 : 0 < ps.flatten.length) (hn : ps.flatten.length ≤ 70368744177664) :
    Calls Tryd.prog 34 #[.slice (some ⟨b, 0, none⟩) ps.length cap] w fun e w' => ∃ v, e = .returned v ∧ OwnB w.heap.size w' v ps.flatten ∧ Below w.heap.size w w' := by
  have HR := Lib.hid h
  have HF := Lib.hid (flat_snoc ps)
  have HLE := Lib.hid (flat_le ps)
  have HT0 : Hid ((ps.take 0).flatten = []) := Lib.hid rfl
  have HTN : Hid ((ps.take ps.length).flatten = ps.flatten) := Lib.hid (by rw [List.take_length])
  have HG := Lib.hid (grow_nil ps.flatten.length h0 hn)
  have HN := Lib.hid (And.intro h0 hn)
  obtain ⟨N, hN⟩ : ∃ N, ps.flatten.length = N := ⟨_, rfl⟩
  rw [hN] at HG HN
  have HNN := Lib.hid hN
  obtain ⟨q, hq⟩ : ∃ q, ps.length = q := ⟨_, rfl⟩
  rw [hq] at hps HTN ⊢
  have HQ := Lib.hid hq
  clear h h0 hn hN hq
  have iq : (q : Int) ≤ 1000 := by omega
  go_enter Tryd.func34, Tryd.ntmps34
  go_wp2_with fail
  go_loopw [11, 3] (fun i s wr => ∃ k : Nat, k ≤ q ∧ i = .int .i64 k ∧ s = .int .i64 ((ps.take k).flatten.length : Nat) ∧ wr = w) (fun i _ _ => q - (intOf i).toNat)
  case atStart => exact ⟨0, by omega, rfl, rfl, rfl⟩
  case round =>
    obtain ⟨k, hk, rfl, rfl, hwr⟩ := hrel
    replace hwr := hwr.symm
    subst hwr
    by_cases hlt : k < q
    · obtain ⟨v, hck, a', cap', rfl, hrd, hc1, hc3, hnil⟩ := HR.out k (by rw [HQ.out]; exact hlt)
      have hle := HLE.out (k + 1)
      have HE : Hid ((ps.take (k + 1)).flatten.length = (ps.take k).flatten.length + (ps[k]'(by rw [HQ.out]; exact hlt)).length) := Lib.hid (by rw [HF.out k (by rw [HQ.out]; exact hlt), List.length_append])
      have hn := HN.out.2
      have hnn := HNN.out
      rw [HE.out] at hle
      generalize (ps[k]'(by rw [HQ.out]; exact hlt)).length = x at *
      obtain ⟨y, hy⟩ : ∃ y, (ps.take k).flatten.length = y := ⟨_, rfl⟩
      rw [hy] at HE hle ⊢
      have i1 : (x : Int) + (y : Int) ≤ 70368744177664 := by omega
      have i2 : decide ((y : Int) + (x : Int) < 0) = false := decide_eq_false (by omega)
      have ik : (k : Int) < (q : Int) := by omega
      clear hrd hy hle hn hnn
      go_wp2_with fail
      go_roundw
      case rel => exact ⟨k + 1, by omega, by go_num, by rw [HE.out]; go_num, trivial⟩
      case measure => simp [intOf]; omega
    · obtain rfl : k = q := by omega
      clear hlt
      rw [HTN.out, HNN.out]
      go_wp2_with (go_at_call 42; refine (HG.out _).mono ?_; rintro e w1 ⟨v0, rfl, ho, hb⟩)
      have HO := Lib.hid ho
      have HB := Lib.hid hb
      clear ho hb
      go_loopw [27, 6] (fun i v w' => ∃ j : Nat, j ≤ k ∧ i = .int .i64 j ∧ OwnB w.heap.size w' v (ps.take j).flatten ∧ Below w.heap.size w w') (fun i _ _ => k - (intOf i).toNat)
      case atStart => exact ⟨0, by omega, rfl, by rw [HT0.out]; exact HO.out, HB.out⟩
      case round =>
        clear HO HB
        obtain ⟨j, hj, rfl, ho, hb⟩ := hrel
        have HO := Lib.hid ho
        have HB' := Lib.hid hb
        by_cases hlt : j < k
        · obtain ⟨v, hck, a', cap', rfl, hrd, hc1, hc3, hnil⟩ := HR.out j (by rw [HQ.out]; exact hlt)
          have hck2 := (hb.cell (p := ⟨b, j, none⟩) hB).trans hck
          have HRD := Lib.hid ((hrd.below hb).mono hb.size)
          have HNIL := Lib.hid hnil
          have hle := HLE.out (j + 1)
          have HE := Lib.hid (HF.out j (by rw [HQ.out]; exact hlt))
          rw [HE.out, List.length_append, HNN.out] at hle
          have HLN : Hid ((ps.take j).flatten.length + (ps[j]'(by rw [HQ.out]; exact hlt)).length ≤ 140737488355328) := Lib.hid (by have := HN.out.2; omega)
          generalize (ps[j]'(by rw [HQ.out]; exact hlt)) = x at *
          have ij : (j : Int) < (k : Int) := by omega
          clear hrd hle ho hb hck hnil
          obtain ⟨y, hy⟩ : ∃ y, (ps.take j).flatten = y := ⟨_, rfl⟩
          rw [hy] at HE HO HLN
          clear hy
          go_wp2_with (refine wpList_appB rfl (.tmp 31) (.tmp 32) rfl w.heap.size _ y x a' cap' rfl HO.out rfl HRD.out HNIL.out HLN.out HB'.out.size ?_; intro v2 w2 ho2 hg2)
          go_roundw
          case rel =>
            exact ⟨j + 1, by omega, by go_num, by rw [HE.out]; exact ho2, HB'.out.trans (hg2.below (fun r hr => HO.out.base r hr) HB'.out.size)⟩
          case measure => simp [intOf]; omega
        · obtain rfl : j = k := by omega
          rw [HTN.out] at HO
          go_wp2_with fail
          go_ret
          exact ⟨_, rfl, HO.out, HB'.out⟩
end Go.Proofs.YtcibbghggfklbaaDoor
