/-
  Package cipher: Block and Stream.
-/
import Derived.Test.YtcibbghggfklbaaDoorCs
namespace Go.Proofs.YtcibbghggfklbaaDoor
open Go.RowKit
set_option linter.unusedVariables false
set_option linter.unusedSimpArgs false

/-- A slice of bytes that is read, whatever its room. -/
def RdV (w : World) (v : Value) (l : List UInt8) : Prop := ∃ a cap, v = .slice a l.length cap ∧ RdB w.heap.size w a l ∧ l.length ≤ cap ∧ cap ≤ maxLen ∧ (a = none → cap = 0)
theorem RdV.form {w : World} {v : Value} {l : List UInt8} (h : RdV w v l) : ∃ a cap, v = .slice a l.length cap ∧ RdB w.heap.size w a l ∧ l.length ≤ cap ∧ cap ≤ maxLen ∧ (a = none → cap = 0) := h
theorem RdV.call {w w' : World} {v : Value} {l : List UInt8} (h : RdV w v l) (hb : Below w.heap.size w w') : RdV w' v l := by
  obtain ⟨a, cap, rfl, h1, h2⟩ := h
  exact ⟨a, cap, rfl, (h1.below hb).mono hb.size, h2⟩
theorem OwnB.rdv {B : Nat} {w : World} {v : Value} {l : List UInt8} (h : OwnB B w v l) : RdV w v l := by
  obtain ⟨a, cap, rfl, h1, h2⟩ := h.form
  have h3 := h.caps
  refine ⟨a, cap, rfl, h2, h3.1, h3.2, fun e => ?_⟩
  rcases h1 with ⟨_, h4, _⟩ | ⟨g, h4, _⟩
  · exact h4
  · rw [e] at h4; cases h4

/-- The boxes of a key and a nonce. -/
structure KN (w : World) (k n : List UInt8) (wr : World) : Prop where
  below : Below w.heap.size w wr
  key : BB wr w.heap.size 23 k
  nonce : BB wr (w.heap.size + 1) 25 n
theorem KN.start (w : World) (k n : List UInt8) : KN w k n ((w.alloc (.cells (bvA k) 23)).alloc (.cells (bvA n) 25)) := by
  refine ⟨((Below.refl _ _).alloc (Nat.le_refl _) _).alloc (by rw [alloc_size]; omega) _, (BB.new w _ k).alloc _, ?_⟩
  have h := BB.new (w.alloc (.cells (bvA k) 23)) 25 n
  rw [alloc_size] at h
  exact h
theorem KN.call {w : World} {k n : List UInt8} {wr w' : World} (h : KN w k n wr) (hb : Below wr.heap.size wr w') : KN w k n w' :=
  ⟨h.below.trans (hb.mono h.below.size), h.key.below hb h.key.lt, h.nonce.below hb h.nonce.lt⟩
theorem KN.lt {w : World} {k n : List UInt8} {wr : World} (h : KN w k n wr) : w.heap.size + 1 < wr.heap.size := h.nonce.lt
theorem KN.drew {w : World} {k n : List UInt8} {wr : World} (h : KN w k n wr) : KN w k n wr.drew := ⟨h.below.drew, h.key.drew, h.nonce.drew⟩
theorem key_size (k : List UInt8) (hk : k.length = 32) : (Tryd.prog.info? 23).map (·.size) = some (bvA k).size := by rw [bvA_size, hk]; kernel_rfl
theorem nonce_size (n : List UInt8) (hn : n.length = 12) : (Tryd.prog.info? 25).map (·.size) = some (bvA n).size := by rw [bvA_size, hn]; kernel_rfl

set_option maxRecDepth 100000 in
set_option maxHeartbeats 1000000 in
theorem Block_ok (k n : List UInt8) (hk : k.length = 32) (hn : n.length = 12) (c : Nat) (hc : c < 4294967296) (w : World) :
    Calls Tryd.prog 12 #[.agg (bvA k), .agg (bvA n), .int .i64 (c : Int)] w fun e w' => ∃ v, e = .returned (.tuple #[v, .int .i64 0]) ∧ RdV w' v (cblock k n c) ∧ Below w.heap.size w w' := by
  obtain ⟨Z, hZ⟩ : ∃ Z, Z = bvA (List.replicate 64 0) := ⟨_, rfl⟩
  have hz := fun W : World => (by rw [hZ]; kernel_rfl : (zeroValue 45).run Tryd.prog W = .ok (.agg Z) W)
  have HZ : Hid (Z.size = (bvA (cblock k n c)).size) := Lib.hid (by rw [hZ, bvA_size, bvA_size, cblock_len, List.length_replicate])
  have HSZ : Hid ((Tryd.prog.info? 45).map (·.size) = some (bvA (cblock k n c)).size) := Lib.hid (by rw [bvA_size, cblock_len]; kernel_rfl)
  have HSK := Lib.hid (key_size k hk)
  have HSN := Lib.hid (nonce_size n hn)
  have HKN := Lib.hid (KN.start w k n)
  have HS : Hid (∀ W, Calls Tryd.prog 21 #[.agg (bvA k), .agg (bvA n), .int .u32 (c : Int)] W fun e w' => e = .returned (.agg (wv (cstart k n c))) ∧ Below W.heap.size W w') := Lib.hid (fun W => start_any k n c hk hn hc W)
  have f1 : decide ((c : Int) < 0) = false := decide_eq_false (by omega)
  have f2 : decide ((4294967295 : Int) < (c : Int)) = false := decide_eq_false (by omega)
  have f3 : IntKind.u32.wrap (c : Int) = (c : Int) := by rw [wrap_u32n]; omega
  clear hZ hk hn hc
  go_enter Tryd.func12, Tryd.ntmps12
  go_wp2_with (first
    | (refine wpList_load_row rfl 23 (.tmp 3) rfl w.heap.size rfl _ (bvA k) (0, 0) _ HKN.out.key Tryd.underlying23 rfl HSK.out ?_)
    | (refine wpList_load_row rfl 25 (.tmp 4) rfl (w.heap.size + 1) rfl _ (bvA n) (0, 0) _ HKN.out.nonce Tryd.underlying25 rfl HSN.out ?_)
    | (go_at_call 21; with_reducible refine (HS.out _).mono ?_; rintro e w2 ⟨rfl, hb2⟩)
    | (go_at_call 22; with_reducible refine (block_any (cstart k n c) (cstart_len _ _ _) _).mono ?_; rintro e w3 ⟨rfl, hb3⟩)
    | (refine wpList_storeA rfl 45 (.tmp 8) (.tmp 20) rfl w3.heap.size (bvA (cblock k n c)) rfl rfl 45 _ (heap_alloc_new w3 _) HSZ.out HZ.out (bvA_one _) ?_))
  intro w4 h4 hg4
  have HB4 : Hid (Below w.heap.size w w4) := Lib.hid (grown_below (((HKN.out.call hb2).call hb3).below.alloc ((HKN.out.call hb2).call hb3).below.size _) hg4 ((HKN.out.call hb2).call hb3).below.size (by rw [alloc_size]; have := ((HKN.out.call hb2).call hb3).below.size; omega))
  have HBB : Hid (BB w4 w3.heap.size 45 (cblock k n c)) := Lib.hid h4
  clear hg4 h4 hb3 hb2
  go_wp2_with fail
  go_ret2
  refine ⟨_, rfl, ⟨some ⟨w3.heap.size, 0, none⟩, 64, by rw [cblock_len]; rfl, ?_, by rw [cblock_len]; exact Nat.le_refl _, by unfold maxLen; omega, fun h => by cases h⟩, HB4.out⟩
  refine ⟨by rw [cblock_len]; unfold maxLen; omega, .inr ⟨w3.heap.size, 0, rfl, HBB.out.lt, fun j hj => ?_⟩⟩
  rw [Nat.zero_add]; exact HBB.out.cell j hj

theorem Block_bad (k n : List UInt8) (c : Int) (hc : ¬ (0 ≤ c ∧ c < 4294967296)) (w : World) :
    Calls Tryd.prog 12 #[.agg (bvA k), .agg (bvA n), .int .i64 c] w fun e w' => e = .returned (.tuple #[.slice none 0 0, .int .i64 1]) ∧ Below w.heap.size w w' := by
  have HKN := Lib.hid (KN.start w k n)
  by_cases h1 : c < 0
  · have f1 : decide (c < 0) = true := decide_eq_true h1
    go_enter Tryd.func12, Tryd.ntmps12
    go_wp2_with fail
    go_ret2
    exact ⟨rfl, HKN.out.below⟩
  · have f1 : decide (c < 0) = false := decide_eq_false h1
    have f2 : decide ((4294967295 : Int) < c) = true := decide_eq_true (by omega)
    go_enter Tryd.func12, Tryd.ntmps12
    go_wp2_with fail
    go_ret2
    exact ⟨rfl, HKN.out.below⟩

set_option maxRecDepth 100000 in
theorem Stream_ok (k n l : List UInt8) (hk : k.length = 32) (hn : n.length = 12) (a : Option Addr) (cap : Nat) (w : World) (hl : RdB w.heap.size w a l) (hcap : l.length ≤ cap) (hc2 : cap ≤ maxLen) (h16 : l.length ≤ 65536) :
    Calls Tryd.prog 14 #[.agg (bvA k), .agg (bvA n), .slice a l.length cap] w fun e w' => ∃ v, e = .returned (.tuple #[v, .int .i64 0]) ∧ OwnB w.heap.size w' v (cstream k n l) ∧ Below w.heap.size w w' := by
  have HSK := Lib.hid (key_size k hk)
  have HSN := Lib.hid (nonce_size n hn)
  have HKN := Lib.hid (KN.start w k n)
  have HS : Hid (∀ W, Below w.heap.size w W → Calls Tryd.prog 24 #[.agg (bvA k), .agg (bvA n), .slice a l.length cap] W fun e w' => ∃ v, e = .returned v ∧ OwnB (W.heap.size + 1 + 1) w' v (cstream k n l) ∧ Below W.heap.size W w') := Lib.hid (fun W hW => stream_any k n l hk hn a cap W ((hl.below hW).mono hW.size) hcap hc2 h16)
  have f1 : decide ((65536 : Int) < (l.length : Int)) = false := decide_eq_false (by omega)
  clear hk hn hl
  generalize l.length = q at *
  go_enter Tryd.func14, Tryd.ntmps14
  go_wp2_with (first
    | (refine wpList_load_row rfl 23 (.tmp 3) rfl w.heap.size rfl _ (bvA k) (0, 0) _ HKN.out.key Tryd.underlying23 rfl HSK.out ?_)
    | (refine wpList_load_row rfl 25 (.tmp 4) rfl (w.heap.size + 1) rfl _ (bvA n) (0, 0) _ HKN.out.nonce Tryd.underlying25 rfl HSN.out ?_)
    | (go_at_call 24; with_reducible refine (HS.out _ HKN.out.below).mono ?_; rintro e w2 ⟨v, rfl, ho2, hb2⟩))
  go_ret2
  exact ⟨_, rfl, ho2.mono (by rw [alloc_size, alloc_size]; omega), (HKN.out.call hb2).below⟩
theorem Stream_bad (k n : List UInt8) (a : Option Addr) (q cap : Nat) (w : World) (h16 : 65536 < q) :
    Calls Tryd.prog 14 #[.agg (bvA k), .agg (bvA n), .slice a q cap] w fun e w' => e = .returned (.tuple #[.slice none 0 0, .int .i64 60]) ∧ Below w.heap.size w w' := by
  have HKN := Lib.hid (KN.start w k n)
  have f1 : decide ((65536 : Int) < (q : Int)) = true := decide_eq_true (by omega)
  go_enter Tryd.func14, Tryd.ntmps14
  go_wp2_with fail
  go_ret2
  exact ⟨rfl, HKN.out.below⟩
end Go.Proofs.YtcibbghggfklbaaDoor
