/-
  What is signed is accepted; the chapter's examples of signatures.
-/
import Derived.Test.YtgpcbckpfnhhcaaDoorSq
namespace Go.Proofs.YtgpcbckpfnhhcaaDoor
open Go.RowKit
set_option linter.unusedVariables false
set_option linter.unusedSimpArgs false

theorem pubS_one : pubS 1 = 4 := by decide
theorem rS_el (x : Nat) (l : List UInt8) : IsEl ((rS x l : Nat) : Int) := pubS_el _
/-- What Sign returns is accepted. -/
theorem ver_sign (x : Nat) (l : List UInt8) : verD (pubS x : Nat) l (rS x l : Nat) (sS x l : Nat) = true := by
  rw [verD_iff]
  refine ⟨pubS_el x, rS_el x l, ⟨by omega, by have := sS_lt x l; omega⟩, ?_⟩
  rw [Int.toNat_natCast, Int.toNat_natCast, Int.toNat_natCast]
  unfold balB
  rw [decide_eq_true_eq]
  exact sig_eq (nonS x l) (hS x l) x
/-- Nothing else is. -/
theorem ver_only (x : Nat) (l : List UInt8) (n : Int) : verD (pubS x : Nat) l (rS x l : Nat) n = decide (n = (sS x l : Nat)) := by
  rw [Bool.eq_iff_iff, decide_eq_true_eq]
  constructor
  · intro h
    rw [verD_iff] at h
    obtain ⟨_, _, h3, h4⟩ := h
    obtain ⟨t, rfl⟩ : ∃ t : Nat, n = (t : Int) := ⟨n.toNat, by omega⟩
    rw [Int.toNat_natCast, Int.toNat_natCast, Int.toNat_natCast] at h4
    unfold balB at h4
    rw [decide_eq_true_eq] at h4
    have := sig_only (k := nonS x l) (h := hS x l) (x := x) (n := t) (by omega) h4
    rw [this]; rfl
  · intro h
    rw [h]; exact ver_sign x l
theorem ver_zero (l : List UInt8) (r s : Int) : verD 0 l r s = false := by
  rw [Bool.eq_false_iff]
  intro h
  rw [verD_iff] at h
  exact absurd h.1.1 (by decide)
theorem ver_Q (pub : Int) (l : List UInt8) (r : Int) : verD pub l r 2305843009213688669 = false := by
  rw [Bool.eq_false_iff]
  intro h
  rw [verD_iff] at h
  exact absurd h.2.2.1.2 (by decide)

theorem sig_pos (x : Nat) (l : List UInt8) : 0 < rS x l := by
  have := (rS_el x l).1; omega
set_option maxRecDepth 100000 in
set_option maxHeartbeats 4000000 in
theorem ssane_any (w : World) (hT : Tab w) : Calls Tryd.prog 10 #[] w fun e w' => e = .returned (.bool true) ∧ Below w.heap.size w w' := by
  have p1 : ∀ w, Calls Tryd.prog 12 #[.int .i64 1] w fun e w' => e = .returned (.tuple #[.int .i64 4, .int .i64 0]) ∧ Below w.heap.size w w' := fun w => by
    have := public_ok 1 (by decide) (by decide) w
    rw [pubS_one] at this; exact this
  have p2 := fun w => public_bad 0 (by unfold IsKey; omega) w
  have p3 := fun w => public_bad 2305843009213688669 (by unfold IsKey; omega) w
  have s1 := fun w => sign_bad 0 (by unfold IsKey; omega) none 0 0 w
  have hrd : ∀ W g, W.cell? ⟨g, 0, none⟩ = some (.int .u8 7) → RdB W.heap.size W (some ⟨g, 0, none⟩) [7] := fun W g h => RdB.one h
  have s2 : ∀ W, Below w.heap.size w W → ∀ g, W.cell? ⟨g, 0, none⟩ = some (.int .u8 7) → Calls Tryd.prog 14 #[.int .i64 1, .slice (some ⟨g, 0, none⟩) 1 1] W fun e w' => e = .returned (.tuple #[sigV (rS 1 [7] : Nat) (sS 1 [7] : Nat), .int .i64 0]) ∧ Below W.heap.size W w' := fun W h g hc =>
    sign_ok 1 (by decide) (by decide) (some ⟨g, 0, none⟩) 1 [7] W (hT.below h hT.lt) (hrd W g hc) (by decide) (by unfold maxLen; omega) (fun h => by cases h) (by decide)
  have v1 : ∀ W, Below w.heap.size w W → Calls Tryd.prog 16 #[.int .i64 0, .slice none 0 0, .agg #[.int .i64 0, .int .i64 0]] W fun e w' => e = .returned (.bool false) ∧ Below W.heap.size W w' := fun W h => by
    have := verify_any 0 0 0 none 0 [] W (hT.below h hT.lt) ⟨by decide, .inl rfl⟩ (by decide) (by decide) (fun _ => rfl) (by decide)
    rw [ver_zero] at this; exact this
  have v2 : ∀ W, Below w.heap.size w W → Calls Tryd.prog 16 #[.int .i64 4, .slice none 0 0, .agg #[.int .i64 4, .int .i64 2305843009213688669]] W fun e w' => e = .returned (.bool false) ∧ Below W.heap.size W w' := fun W h => by
    have := verify_any 4 4 2305843009213688669 none 0 [] W (hT.below h hT.lt) ⟨by decide, .inl rfl⟩ (by decide) (by decide) (fun _ => rfl) (by decide)
    rw [ver_Q] at this; exact this
  have v3 : ∀ W, Below w.heap.size w W → ∀ g, W.cell? ⟨g, 0, none⟩ = some (.int .u8 7) → Calls Tryd.prog 16 #[.int .i64 4, .slice (some ⟨g, 0, none⟩) 1 1, .agg #[.int .i64 (rS 1 [7] : Nat), .int .i64 (sS 1 [7] : Nat)]] W fun e w' => e = .returned (.bool true) ∧ Below W.heap.size W w' := fun W h g hc => by
    have := verify_any (pubS 1 : Nat) (rS 1 [7] : Nat) (sS 1 [7] : Nat) (some ⟨g, 0, none⟩) 1 [7] W (hT.below h hT.lt) (hrd W g hc) (by decide) (by unfold maxLen; omega) (fun h => by cases h) (by decide)
    rw [ver_sign, pubS_one] at this; exact this
  have hpos := sig_pos 1 [7]
  obtain ⟨r, hr⟩ : ∃ r, rS 1 [7] = r := ⟨_, rfl⟩
  rw [hr] at s2 v3 hpos
  clear hr
  obtain ⟨s, hs⟩ : ∃ s, sS 1 [7] = s := ⟨_, rfl⟩
  rw [hs] at s2 v3
  clear hs
  have f1 : decide (0 < (r : Int)) = true := decide_eq_true (by omega)
  have f2 : decide (0 < r) = true := decide_eq_true hpos
  clear hrd hT
  have HB := Below.refl w.heap.size w
  unfold sigV at s1 s2
  go_enter Tryd.func10, Tryd.ntmps10
  go_wp2_with (first
    | (go_at_call 12; with_reducible refine (p1 _).mono ?_; rintro e w1 ⟨rfl, hb⟩; replace HB := belowNext HB hb; clear hb p1)
    | (go_at_call 12; with_reducible refine (p2 _).mono ?_; rintro e w2 ⟨rfl, hb⟩; replace HB := belowNext HB hb; clear hb p2)
    | (go_at_call 12; with_reducible refine (p3 _).mono ?_; rintro e w3 ⟨rfl, hb⟩; replace HB := belowNext HB hb; clear hb p3)
    | (go_at_call 14; with_reducible refine (s1 _).mono ?_; rintro e w4 ⟨rfl, hb⟩; replace HB := belowNext HB hb; clear hb s1))
  have hb7 := (HB.alloc HB.size (.cells #[.int .i64 0, .int .i64 0] 30)).alloc (by have := HB.size; simp; omega) (.cells #[.int .u8 7] 5)
  have hc7 : ((w4.alloc (.cells #[.int .i64 0, .int .i64 0] 30)).alloc (.cells #[.int .u8 7] 5)).cell? ⟨w4.heap.size + 1, 0, none⟩ = some (.int .u8 7) := by
    have := cell_of_row _ _ 0 _ _ _ (heap_alloc_new (w4.alloc (.cells #[.int .i64 0, .int .i64 0] 30)) (.cells #[.int .u8 7] 5))
    rw [World.size_alloc] at this; exact this
  refine (s2 _ hb7 _ hc7).mono ?_
  rintro e w5 ⟨rfl, hb⟩
  replace HB := hb7.trans (hb.mono hb7.size)
  clear hb hb7 hc7
  go_wp2_with fail
  have hG5 := (SG.new w5 r s).alloc (.cells #[.int .u8 7] 5)
  have hb7 := (HB.alloc HB.size (.cells #[.int .i64 (r : Int), .int .i64 (s : Int)] 30)).alloc (by have := HB.size; simp; omega) (.cells #[.int .u8 7] 5)
  have hc7 : ((w5.alloc (.cells #[.int .i64 (r : Int), .int .i64 (s : Int)] 30)).alloc (.cells #[.int .u8 7] 5)).cell? ⟨w5.heap.size + 1, 0, none⟩ = some (.int .u8 7) := by
    have := cell_of_row _ _ 0 _ _ _ (heap_alloc_new (w5.alloc (.cells #[.int .i64 (r : Int), .int .i64 (s : Int)] 30)) (.cells #[.int .u8 7] 5))
    rw [World.size_alloc] at this; exact this
  refine (s2 _ hb7 _ hc7).mono ?_
  rintro e w6 ⟨rfl, hb⟩
  have HG := (hG5.call hb).alloc (.cells #[.int .i64 (r : Int), .int .i64 (s : Int)] 30)
  have c0 := HG.cell0
  have c1 := HG.cell1
  replace HB := hb7.trans (hb.mono hb7.size)
  replace HB := HB.alloc HB.size (.cells #[.int .i64 (r : Int), .int .i64 (s : Int)] 30)
  clear hb hb7 hc7 hG5 s2
  go_wp2_with (first
    | (go_at_call 16; with_reducible refine (v1 _ HB).mono ?_; rintro e w7 ⟨rfl, hb⟩; replace HB := HB.trans (hb.mono HB.size); replace HG := HG.call hb; clear hb v1)
    | (go_at_call 16; with_reducible refine (v2 _ HB).mono ?_; rintro e w8 ⟨rfl, hb⟩; replace HB := HB.trans (hb.mono HB.size); replace HG := HG.call hb; clear hb v2; have h8 := cell_of_row _ _ 0 _ _ _ (heap_alloc_new w8 (.cells #[.int .u8 7] 5)); have HB8 := HB.alloc HB.size (.cells #[.int .u8 7] 5); have HG9 := HG.alloc (.cells #[.int .u8 7] 5); have d0 := HG9.cell0; have d1 := HG9.cell1)
    | (go_at_call 16; with_reducible refine (v3 _ HB8 _ h8).mono ?_; rintro e w9 ⟨rfl, hb⟩; replace HB := HB8.trans (hb.mono HB8.size); clear hb v3))
  go_ret
  exact ⟨rfl, HB⟩
end Go.Proofs.YtgpcbckpfnhhcaaDoor
