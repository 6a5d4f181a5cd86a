/-
  digestsOf of the statements of layer 2.
-/
import Derived.Test.YtndbhmipehpebaaDoorCli
import Derived.Laws.Tables
namespace Go.Proofs.YtndbhmipehpebaaDoor
open Go.RowKit

/-- The digest that a byte and its place determine. -/
def dig1 (c i : Nat) : List UInt8 := UInt8.ofNat (c % 4) :: UInt8.ofNat (i / 8) :: List.replicate 30 0
def digN (script : List UInt8) (k : Nat) : List (List UInt8) := (List.range k).map fun i => dig1 (script.getD i 0).toNat i
def digs (script : List UInt8) : List (List UInt8) := digN script (min script.length 24)
theorem dig1_len (c i : Nat) : (dig1 c i).length = 32 := by simp [dig1]
theorem digN_snoc (script : List UInt8) (k : Nat) : digN script (k + 1) = digN script k ++ [dig1 (script.getD k 0).toNat k] := by
  simp [digN, List.range_succ]
theorem digN_len (script : List UInt8) (k : Nat) : (digN script k).length = k := by simp [digN]
theorem digs_len (script : List UInt8) : (digs script).length ≤ 24 := by unfold digs; rw [digN_len]; omega
theorem dig1_cells (x k : Nat) (hk : k / 8 < 256) : bvA (dig1 x k) = #[.int .u8 ((x : Int) % 4), .int .u8 ((k : Int) / 8), .int .u8 0, .int .u8 0, .int .u8 0, .int .u8 0, .int .u8 0, .int .u8 0, .int .u8 0, .int .u8 0, .int .u8 0, .int .u8 0, .int .u8 0, .int .u8 0, .int .u8 0, .int .u8 0, .int .u8 0, .int .u8 0, .int .u8 0, .int .u8 0, .int .u8 0, .int .u8 0, .int .u8 0, .int .u8 0, .int .u8 0, .int .u8 0, .int .u8 0, .int .u8 0, .int .u8 0, .int .u8 0, .int .u8 0, .int .u8 0] := by
  have h1 : (Value.int .u8 ((x : Int) % 4)) = bv (UInt8.ofNat (x % 4)) := by rw [bv_ofNat _ (by omega)]; congr 1
  have h2 : (Value.int .u8 ((k : Int) / 8)) = bv (UInt8.ofNat (k / 8)) := by rw [bv_ofNat _ hk]; congr 1
  rw [h1, h2]; rfl
theorem OwnD.empty {B : Nat} {w : World} (hB : B ≤ w.heap.size) : OwnD B (w.alloc (.cells #[] 26)) (.slice (some ⟨w.heap.size, 0, none⟩) 0 0) [] :=
  ⟨fun _ h => (by cases h), rfl, .inr ⟨w.heap.size, 0, #[], rfl, hB, heap_alloc_new w _, Nat.le_refl _, Nat.zero_le _, rfl, rfl⟩⟩

set_option maxRecDepth 100000 in
set_option maxHeartbeats 1600000 in
theorem digestsOf_any (a : Option Addr) (cap : Nat) (l : List UInt8) (w : World) (hl : RdB w.heap.size w a l) (hcap : l.length ≤ cap) (hc2 : cap ≤ maxLen) :
    Calls Tryd.prog 16 #[.slice a l.length cap] w (MadeD w (digs l)) := by
  have HL := Lib.hid hl
  clear hl
  unfold maxLen at hc2
  go_enter Tryd.func16, Tryd.ntmps16
  go_wp2_with fail
  go_loopw [3, 4] (fun v i wr => ∃ k : Nat, k ≤ l.length ∧ k ≤ 24 ∧ i = .int .i64 k ∧ OwnD w.heap.size wr v (digN l k) ∧ Below w.heap.size w wr) (fun _ i _ => 24 - (intOf i).toNat)
  case atStart => exact ⟨0, by omega, by omega, rfl, OwnD.empty (Nat.le_refl _), (Below.refl _ _).alloc (Nat.le_refl _) _⟩
  case round =>
    obtain ⟨k, hk1, hk2, rfl, ho, hb⟩ := hrel
    have HO := Lib.hid ho
    have HB := Lib.hid hb
    clear ho hb
    by_cases hlt : k < l.length
    · by_cases hlt2 : k < 24
      · have hcell : wr.cell? ⟨0, 0, none⟩ = wr.cell? ⟨0, 0, none⟩ := rfl
        clear hcell
        obtain ⟨b, o, rfl, hbB, hc⟩ : ∃ b o, a = some ⟨b, o, none⟩ ∧ b < w.heap.size ∧ ∀ j (h : j < l.length), w.cell? ⟨b, o + j, none⟩ = some (bv l[j]) := by
          rcases HL.out.2 with h2 | h2
          · subst h2; simp at hlt
          · exact h2
        have hck : wr.cell? ⟨b, o + k, none⟩ = some (.int .u8 ((l.getD k 0).toNat : Int)) := by
          rw [HB.out.cell (p := ⟨b, o + k, none⟩) hbB, hc k hlt]; simp [bv, List.getD, hlt]
        have HX := Lib.hid (digN_snoc l k)
        have hx := (l.getD k 0).toNat_lt
        generalize (l.getD k 0).toNat = x at *
        clear hc
        have HR : Hid (RdD (wr.alloc (.cells #[.int .u8 ((x : Int) % 4), .int .u8 ((k : Int) / 8), .int .u8 0, .int .u8 0, .int .u8 0, .int .u8 0, .int .u8 0, .int .u8 0, .int .u8 0, .int .u8 0, .int .u8 0, .int .u8 0, .int .u8 0, .int .u8 0, .int .u8 0, .int .u8 0, .int .u8 0, .int .u8 0, .int .u8 0, .int .u8 0, .int .u8 0, .int .u8 0, .int .u8 0, .int .u8 0, .int .u8 0, .int .u8 0, .int .u8 0, .int .u8 0, .int .u8 0, .int .u8 0, .int .u8 0, .int .u8 0] 26)).heap.size (wr.alloc (.cells #[.int .u8 ((x : Int) % 4), .int .u8 ((k : Int) / 8), .int .u8 0, .int .u8 0, .int .u8 0, .int .u8 0, .int .u8 0, .int .u8 0, .int .u8 0, .int .u8 0, .int .u8 0, .int .u8 0, .int .u8 0, .int .u8 0, .int .u8 0, .int .u8 0, .int .u8 0, .int .u8 0, .int .u8 0, .int .u8 0, .int .u8 0, .int .u8 0, .int .u8 0, .int .u8 0, .int .u8 0, .int .u8 0, .int .u8 0, .int .u8 0, .int .u8 0, .int .u8 0, .int .u8 0, .int .u8 0] 26)) (some ⟨wr.heap.size, 0, none⟩) [dig1 x k]) := by
          rw [← dig1_cells x k (by omega)]
          exact RdD.one (BB.new wr _ _) (dig1_len _ _)
        have HLN : Hid (((digN l k).length + [dig1 x k].length) * 32 ≤ 140737488355328) := by show _ ≤ _; rw [digN_len, List.length_singleton]; omega
        go_wp2_with ((with_reducible show wpList _ _ _ (({ dst := some 27, op := _, type := _, pos := _, after := _, guard := _ } : Oper) :: _) _ _); refine wpList_appD rfl (.tmp 16) (.tmp 26) rfl w.heap.size _ (digN l k) [dig1 x k] (some ⟨wr.heap.size, 0, none⟩) 1 rfl (HO.out.alloc _) rfl HR.out (fun h => by cases h) HLN.out (HB.out.alloc HB.out.size _).size ?_)
        intro v5 w5 ho5 hg5
        rw [← HX.out] at ho5
        have HO5 := Lib.hid ho5
        have HB5 := Lib.hid ((HB.out.alloc HB.out.size _).trans (hg5.below HO.out.base (HB.out.alloc HB.out.size _).size))
        clear ho5 hg5
        go_wp2_with fail
        go_roundw
        case rel => exact ⟨k + 1, by omega, by omega, by go_num, HO5.out, HB5.out⟩
        case measure => simp [intOf]; omega
      · obtain rfl : k = 24 := by omega
        have e : digs l = digN l 24 := by unfold digs; rw [Nat.min_eq_right (by omega)]
        go_wp2_with fail
        go_ret
        rw [e]
        exact ⟨_, rfl, HO.out, HB.out⟩
    · have hk : k = l.length := by omega
      have e : digs l = digN l k := by unfold digs; rw [hk, Nat.min_eq_left (by omega)]
      have hlf : decide ((k : Int) < (l.length : Int)) = false := decide_eq_false (by omega)
      clear hk
      go_wp2_with fail
      go_ret
      rw [e]
      exact ⟨_, rfl, HO.out, HB.out⟩
end Go.Proofs.YtndbhmipehpebaaDoor
