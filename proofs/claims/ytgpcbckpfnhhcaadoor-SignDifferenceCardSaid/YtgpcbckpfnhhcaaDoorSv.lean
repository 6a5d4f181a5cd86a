/-
  Package sign: the checks of a claim, and Verify.
-/
import Derived.Test.YtgpcbckpfnhhcaaDoorSp
import Derived.Test.YtgpcbckpfnhhcaaDoorPkC
import Derived.Deep.RegionHeld3
namespace Go.Proofs.YtgpcbckpfnhhcaaDoor
open Go.RowKit
set_option linter.unusedVariables false
set_option linter.unusedSimpArgs false

/-- A claim as a value. -/
def claimV (pub : Int) (m : Value) (r s : Int) : Value := .agg #[.int .i64 pub, m, .int .i64 r, .int .i64 s]

theorem chkR_elB (a : Int) : chkR a = if elB a then 0 else 40 := by
  by_cases h : IsEl a
  · rw [chkR_ok h, elB_true h]; rfl
  · rw [chkR_bad h, elB_false h]; rfl

set_option maxRecDepth 100000 in
theorem hasElements_any (pub : Int) (a : Option Addr) (n cap : Nat) (r s : Int) (w : World) :
    Calls Tryd.prog 41 #[claimV pub (.slice a n cap) r s] w fun e w' => e = .returned (.bool (elB pub && elB r)) ∧ Below w.heap.size w w' := by
  unfold claimV
  obtain ⟨w1, hw1⟩ : ∃ w1, w1 = w.alloc (.cells #[.int .i64 pub, .slice a n cap, .int .i64 r, .int .i64 s] 45) := ⟨_, rfl⟩
  have k1 := fun w => gCheck_any pub w
  have k2 := fun w => gCheck_any r w
  rw [chkR_elB] at k1 k2
  have HB : Below w.heap.size w (w.alloc (.cells #[.int .i64 pub, .slice a n cap, .int .i64 r, .int .i64 s] 45)) := (Below.refl _ _).alloc (Nat.le_refl _) _
  have HG : (w.alloc (.cells #[.int .i64 pub, .slice a n cap, .int .i64 r, .int .i64 s] 45)).cell? ⟨w.heap.size, 2, none⟩ = some (.int .i64 r) := by rw [cell_of_row _ _ _ _ _ _ (heap_alloc_new w _)]; rfl
  have HS : w.heap.size < (w.alloc (.cells #[.int .i64 pub, .slice a n cap, .int .i64 r, .int .i64 s] 45)).heap.size := by simp
  cases h1 : elB pub
  · rw [h1] at k1
    go_enter Tryd.func41, Tryd.ntmps41
    go_wp2_with (go_at_call 18; with_reducible refine (k1 _).mono ?_; rintro e w2 ⟨rfl, hb⟩; replace HB := HB.trans (hb.mono HB.size); clear hb)
    go_ret
    exact ⟨rfl, HB⟩
  · rw [h1] at k1
    cases h2 : elB r <;> rw [h2] at k2
    · go_enter Tryd.func41, Tryd.ntmps41
      go_wp2_with (first
        | (go_at_call 18; with_reducible refine (k1 _).mono ?_; rintro e w2 ⟨rfl, hb⟩; have hc := (hb.cell (p := ⟨w.heap.size, 2, none⟩) HS).trans HG; replace HB := HB.trans (hb.mono HB.size); clear hb k1)
        | (go_at_call 18; with_reducible refine (k2 _).mono ?_; rintro e w3 ⟨rfl, hb⟩; replace HB := HB.trans (hb.mono HB.size); clear hb))
      go_ret
      exact ⟨rfl, HB⟩
    · go_enter Tryd.func41, Tryd.ntmps41
      go_wp2_with (first
        | (go_at_call 18; with_reducible refine (k1 _).mono ?_; rintro e w2 ⟨rfl, hb⟩; have hc := (hb.cell (p := ⟨w.heap.size, 2, none⟩) HS).trans HG; replace HB := HB.trans (hb.mono HB.size); clear hb k1)
        | (go_at_call 18; with_reducible refine (k2 _).mono ?_; rintro e w3 ⟨rfl, hb⟩; replace HB := HB.trans (hb.mono HB.size); clear hb))
      go_ret
      exact ⟨rfl, HB⟩

set_option maxRecDepth 100000 in
theorem hasScalar_any (pub : Int) (a : Option Addr) (n cap : Nat) (r s : Int) (w : World) :
    Calls Tryd.prog 42 #[claimV pub (.slice a n cap) r s] w fun e w' => e = .returned (.bool (scal s)) ∧ Below w.heap.size w w' := by
  unfold claimV
  have k1 := fun w => fCheck s w
  have HB : Below w.heap.size w (w.alloc (.cells #[.int .i64 pub, .slice a n cap, .int .i64 r, .int .i64 s] 45)) := (Below.refl _ _).alloc (Nat.le_refl _) _
  cases h1 : scal s <;> rw [h1] at k1
  · go_enter Tryd.func42, Tryd.ntmps42
    go_wp2_with (go_at_call 19; with_reducible refine (k1 _).mono ?_; rintro e w2 ⟨rfl, hb⟩; replace HB := HB.trans (hb.mono HB.size); clear hb)
    go_ret
    exact ⟨rfl, HB⟩
  · go_enter Tryd.func42, Tryd.ntmps42
    go_wp2_with (go_at_call 19; with_reducible refine (k1 _).mono ?_; rintro e w2 ⟨rfl, hb⟩; replace HB := HB.trans (hb.mono HB.size); clear hb)
    go_ret
    exact ⟨rfl, HB⟩

set_option maxRecDepth 100000 in
set_option maxHeartbeats 2000000 in
theorem all_any (c : Value) (b0 b1 b2 : Bool) (g : Nat) (w : World)
    (h0 : w.cell? ⟨g, 0, none⟩ = some (.func (.func 41) #[c] #[])) (h1 : w.cell? ⟨g, 1, none⟩ = some (.func (.func 42) #[c] #[])) (h2 : w.cell? ⟨g, 2, none⟩ = some (.func (.func 43) #[c] #[]))
    (k0 : ∀ w', Below w.heap.size w w' → Calls Tryd.prog 41 #[c] w' fun e w'' => e = .returned (.bool b0) ∧ Below w'.heap.size w' w'')
    (k1 : b0 = true → ∀ w', Below w.heap.size w w' → Calls Tryd.prog 42 #[c] w' fun e w'' => e = .returned (.bool b1) ∧ Below w'.heap.size w' w'')
    (k2 : b0 = true → b1 = true → ∀ w', Below w.heap.size w w' → Calls Tryd.prog 43 #[c] w' fun e w'' => e = .returned (.bool b2) ∧ Below w'.heap.size w' w'') :
    Calls Tryd.prog 40 #[.slice (some ⟨g, 0, none⟩) 3 3] w fun e w' => e = .returned (.bool (b0 && (b1 && b2))) ∧ Below w.heap.size w w' := by
  have hg : g < w.heap.size := by
    obtain ⟨o, ho, _⟩ := cells_of_cell h0
    exact (Array.getElem?_eq_some_iff.1 ho).1
  have HB0 := Lib.hid (Below.refl w.heap.size w)
  go_enter Tryd.func40, Tryd.ntmps40
  go_wp2_with fail
  go_loopw [7] (fun i wr => ∃ k : Nat, i = .int .i64 k ∧ k ≤ 3 ∧ (0 < k → b0 = true) ∧ (1 < k → b1 = true) ∧ (2 < k → b2 = true) ∧ Below w.heap.size w wr) (fun i _ => 3 - (intOf i).toNat)
  case atStart => exact ⟨0, rfl, by omega, by omega, by omega, by omega, HB0.out⟩
  case round =>
    clear HB0
    obtain ⟨k, rfl, hk, p0, p1, p2, hb⟩ := hrel
    match k, hk with
    | 0, _ =>
      have hc := (hb.cell (p := ⟨g, 0, none⟩) hg).trans h0
      have hK := Lib.hid (k0 wr hb)
      cases b0
      · go_wp2_with (go_at_call 41; with_reducible refine hK.out.mono ?_; rintro e w2 ⟨rfl, hb2⟩)
        go_ret
        exact ⟨rfl, hb.trans (hb2.mono hb.size)⟩
      · go_wp2_with (go_at_call 41; with_reducible refine hK.out.mono ?_; rintro e w2 ⟨rfl, hb2⟩)
        go_roundw
        case rel => exact ⟨1, rfl, by omega, fun _ => by simp, by omega, by omega, hb.trans (hb2.mono hb.size)⟩
        case measure => simp [intOf]
    | 1, _ =>
      have hc := (hb.cell (p := ⟨g, 1, none⟩) hg).trans h1
      have hK := Lib.hid (k1 (p0 (by omega)) wr hb)
      cases b1
      · go_wp2_with (go_at_call 42; with_reducible refine hK.out.mono ?_; rintro e w2 ⟨rfl, hb2⟩)
        go_ret
        exact ⟨by simp, hb.trans (hb2.mono hb.size)⟩
      · go_wp2_with (go_at_call 42; with_reducible refine hK.out.mono ?_; rintro e w2 ⟨rfl, hb2⟩)
        go_roundw
        case rel => exact ⟨2, rfl, by omega, fun _ => p0 (by omega), fun _ => by simp, by omega, hb.trans (hb2.mono hb.size)⟩
        case measure => simp [intOf]
    | 2, _ =>
      have hc := (hb.cell (p := ⟨g, 2, none⟩) hg).trans h2
      have hK := Lib.hid (k2 (p0 (by omega)) (p1 (by omega)) wr hb)
      cases b2
      · go_wp2_with (go_at_call 43; with_reducible refine hK.out.mono ?_; rintro e w2 ⟨rfl, hb2⟩)
        go_ret
        exact ⟨by simp, hb.trans (hb2.mono hb.size)⟩
      · go_wp2_with (go_at_call 43; with_reducible refine hK.out.mono ?_; rintro e w2 ⟨rfl, hb2⟩)
        go_roundw
        case rel => exact ⟨3, rfl, by omega, fun _ => p0 (by omega), fun _ => p1 (by omega), fun _ => by simp, hb.trans (hb2.mono hb.size)⟩
        case measure => simp [intOf]
    | 3, _ =>
      go_wp2_with fail
      go_ret
      exact ⟨by rw [p0 (by omega), p1 (by omega), p2 (by omega)]; rfl, hb⟩

theorem equal_bv8 (a b : List UInt8) (ha : a.length = 8) (hb : b.length = 8) (w : World) : (Op.equalIn 10000 57 (.agg (bvA a)) (.agg (bvA b))).run Tryd.prog w = .ok (deq a b) w := by
  obtain ⟨i0, hi0, hz0, hz1, hz2⟩ := info_parts byteInfo
  have h := run_equalIn_array (P := Tryd.prog) w 9999 (bvA a) (bvA b) Tryd.underlying57 hi0
  have hc : Tryd.prog.cellsOf 5 = 1 := by kernel_rfl
  rw [hc, eqItems_bv 9998 a b w _ (fun i hi => by rw [List.mem_range] at hi; omega)] at h
  refine h.trans ?_
  congr 1
  unfold deq
  rw [Bool.eq_iff_iff, List.all_eq_true, beq_iff_eq]
  constructor
  · intro hall
    apply List.ext_getElem (by omega)
    intro i h1 h2
    have := hall i (by rw [List.mem_range]; omega)
    simpa [List.getD, h1, h2] using this
  · rintro rfl i hi
    simp
theorem deq_be8 {a b : Nat} (ha : a < 4611686018427377339) (hb : b < 4611686018427377339) : deq (be8 (a : Int)) (be8 (b : Int)) = decide (a = b) := by
  unfold deq
  rw [Bool.eq_iff_iff, beq_iff_eq, decide_eq_true_eq, be8_eq_iff (by omega) (by omega) (by omega) (by omega)]
  omega

/-- Whether the equation of a signature holds. -/
def balB (p r s : Nat) (l : List UInt8) : Bool := decide (pubS s = r * (p ^ chalS p r l % 4611686018427377339) % 4611686018427377339)

set_option maxRecDepth 100000 in
set_option maxHeartbeats 2000000 in
theorem isBalanced_any (p r s : Nat) (hp : IsEl p) (hr : IsEl r) (hs : s < 2305843009213688669) (a : Option Addr) (cap : Nat) (l : List UInt8) (w : World) (hT : Tab w) (hl : RdB w.heap.size w a l) (hcap : l.length ≤ cap) (hc2 : cap ≤ maxLen) (hnil : a = none → cap = 0) (hn : l.length ≤ 70368744177000) :
    Calls Tryd.prog 43 #[claimV p (.slice a l.length cap) r s] w fun e w' => e = .returned (.bool (balB p r s l)) ∧ Below w.heap.size w w' := by
  unfold claimV balB
  have hL : pubS s < 4611686018427377339 := modP_lt _
  have hE : r * (p ^ chalS p r l % 4611686018427377339) % 4611686018427377339 < 4611686018427377339 := modP_lt _
  rw [← deq_be8 hL hE]
  have hpw := isEl_of (modP_lt (p ^ chalS p r l)) (El.pow (by have := hp.2.2; rwa [Int.toNat_natCast] at this) (chalS p r l))
  have k1 := fun w => gBase_any s w
  rw [base_pub s hs] at k1
  have k2 : ∀ w', Below w.heap.size w w' → Calls Tryd.prog 33 #[.int .i64 p, .int .i64 r, .slice a l.length cap] w' fun e w'' => e = .returned (.int .i64 (chalS p r l : Nat)) ∧ Below w'.heap.size w' w'' := fun w' h => challenge_any p r a cap l w' (hT.below h hT.lt) ((hl.below h).mono h.size) hcap hc2 hnil hn
  have k3 := fun w => gExp_ok p (chalS p r l) hp (chalS_bd p r l).2 w
  have k4 := fun w => gMul_ok r (p ^ chalS p r l % 4611686018427377339) hr hpw w
  have k5 := fun w => bytesOf_any (pubS s : Nat) w
  have k6 := fun w => bytesOf_any (r * (p ^ chalS p r l % 4611686018427377339) % 4611686018427377339 : Nat) w
  have k7 := fun W => equal_bv8 (be8 (pubS s : Nat)) (be8 (r * (p ^ chalS p r l % 4611686018427377339) % 4611686018427377339 : Nat)) (be8_len _) (be8_len _) W
  clear hp hr hpw hT hl hnil hc2 hL hE
  generalize deq (be8 (pubS s : Nat)) (be8 (r * (p ^ chalS p r l % 4611686018427377339) % 4611686018427377339 : Nat)) = bb at *
  generalize r * (p ^ chalS p r l % 4611686018427377339) % 4611686018427377339 = right at *
  generalize p ^ chalS p r l % 4611686018427377339 = pw at *
  generalize chalS p r l = h at *
  generalize pubS s = left at *
  generalize l.length = q at *
  obtain ⟨x5, hx5⟩ : ∃ x, be8 (left : Int) = x := ⟨_, rfl⟩
  obtain ⟨x6, hx6⟩ : ∃ x, be8 (right : Int) = x := ⟨_, rfl⟩
  rw [hx5] at k5 k7
  rw [hx6] at k6 k7
  clear hx5 hx6
  have HB : Below w.heap.size w (w.alloc (.cells #[.int .i64 p, .slice a q cap, .int .i64 r, .int .i64 s] 45)) := (Below.refl _ _).alloc (Nat.le_refl _) _
  have hS0 : (w.alloc (.cells #[.int .i64 p, .slice a q cap, .int .i64 r, .int .i64 s] 45)).cell? ⟨w.heap.size, 0, none⟩ = some (.int .i64 p) ∧ (w.alloc (.cells #[.int .i64 p, .slice a q cap, .int .i64 r, .int .i64 s] 45)).cell? ⟨w.heap.size, 1, none⟩ = some (.slice a q cap) ∧ (w.alloc (.cells #[.int .i64 p, .slice a q cap, .int .i64 r, .int .i64 s] 45)).cell? ⟨w.heap.size, 2, none⟩ = some (.int .i64 r) := by
    refine ⟨?_, ?_, ?_⟩ <;> (rw [cell_of_row _ _ _ _ _ _ (heap_alloc_new w _)]; rfl)
  have hz0 : w.heap.size < (w.alloc (.cells #[.int .i64 p, .slice a q cap, .int .i64 r, .int .i64 s] 45)).heap.size := by simp
  have KEEP : Hid (∀ W W' : World, (W.cell? ⟨w.heap.size, 0, none⟩ = some (.int .i64 p) ∧ W.cell? ⟨w.heap.size, 1, none⟩ = some (.slice a q cap) ∧ W.cell? ⟨w.heap.size, 2, none⟩ = some (.int .i64 r)) → w.heap.size < W.heap.size → Below W.heap.size W W' →
      (W'.cell? ⟨w.heap.size, 0, none⟩ = some (.int .i64 p) ∧ W'.cell? ⟨w.heap.size, 1, none⟩ = some (.slice a q cap) ∧ W'.cell? ⟨w.heap.size, 2, none⟩ = some (.int .i64 r)) ∧ w.heap.size < W'.heap.size) := fun W W' h hz hb =>
    ⟨⟨(hb.cell (p := ⟨w.heap.size, 0, none⟩) hz).trans h.1, (hb.cell (p := ⟨w.heap.size, 1, none⟩) hz).trans h.2.1, (hb.cell (p := ⟨w.heap.size, 2, none⟩) hz).trans h.2.2⟩, Nat.lt_of_lt_of_le hz hb.size⟩
  go_enter Tryd.func43, Tryd.ntmps43
  go_wp2_with (go_at_call 20; with_reducible refine (k1 _).mono ?_; rintro e w2 ⟨rfl, hb⟩; have ⟨hS1, hz1⟩ := KEEP.out _ _ hS0 hz0 hb; have HB1 := Lib.hid (HB.trans (hb.mono HB.size)); clear hb hS0 hz0 HB k1)
  go_region_held3 (fun w' => w'.cell? ⟨w.heap.size, 0, none⟩ = some (.int .i64 p) ∧ w'.cell? ⟨w.heap.size, 1, none⟩ = some (.slice a q cap) ∧ w'.cell? ⟨w.heap.size, 2, none⟩ = some (.int .i64 r))
    (first
      | exact hS3
      | exact hS2
      | exact hS1)
    (first
      | (go_at_call 33
         with_reducible refine (k2 _ ?_).mono ?_
         · exact HB1.out.drew
         rintro e w3 ⟨rfl, hb⟩
         have hk2 := KEEP.out w2.drew _ hS1 hz1 hb
         have hS2 := hk2.1
         have hz2 := hk2.2
         clear hk2
         have HB2 := Lib.hid (HB1.out.drew.trans (hb.mono HB1.out.size))
         clear hb)
      | (go_at_call 21
         with_reducible refine (k3 _).mono ?_
         rintro e w4 ⟨rfl, hb⟩
         have hk3 := KEEP.out w3 _ hS2 hz2 hb
         have hS3 := hk3.1
         have hz3 := hk3.2
         clear hk3
         have HB3 := Lib.hid (HB2.out.trans (hb.mono HB2.out.size))
         clear hb))
  clear hS1 hS2 k2 k3 KEEP
  obtain ⟨d0, d1, d2⟩ := hS3
  have HB := HB3.out
  clear HB1 HB2 HB3
  go_wp2_with (first
    | (go_at_call 23; with_reducible refine (k4 _).mono ?_; rintro e w5 ⟨rfl, hb⟩; replace HB := HB.trans (hb.mono HB.size); clear hb d0 d1 d2 k4 hz1 hz2 hz3)
    | (go_at_call 63; with_reducible refine (k5 _).mono ?_; rintro e w6 ⟨rfl, hb⟩; replace HB := HB.trans (hb.mono HB.size); clear hb k5)
    | (go_at_call 63; with_reducible refine (k6 _).mono ?_; rintro e w7 ⟨rfl, hb⟩; replace HB := HB.trans (hb.mono HB.size); clear hb))
  go_ret
  exact ⟨rfl, HB⟩

/-- What Verify answers. -/
def verB (pub : Int) (l : List UInt8) (r s : Int) : Prop := IsEl pub ∧ IsEl r ∧ (0 ≤ s ∧ s < 2305843009213688669) ∧ balB pub.toNat r.toNat s.toNat l = true
noncomputable def verD (pub : Int) (l : List UInt8) (r s : Int) : Bool := @decide (verB pub l r s) (Classical.propDecidable _)
theorem verD_iff {pub : Int} {l : List UInt8} {r s : Int} : verD pub l r s = true ↔ verB pub l r s := @decide_eq_true_iff _ (Classical.propDecidable _)
theorem elB_iff {a : Int} : elB a = true ↔ IsEl a := by
  by_cases h : IsEl a
  · rw [elB_true h]; simp [h]
  · rw [elB_false h]; simp [h]
theorem scal_iff {a : Int} : scal a = true ↔ (0 ≤ a ∧ a < 2305843009213688669) := by simp [scal]
theorem verD_eq (pub : Int) (l : List UInt8) (r s : Int) : verD pub l r s = ((elB pub && elB r) && (scal s && balB pub.toNat r.toNat s.toNat l)) := by
  rw [Bool.eq_iff_iff, verD_iff, Bool.and_eq_true, Bool.and_eq_true, Bool.and_eq_true, elB_iff, elB_iff, scal_iff]
  unfold verB
  exact ⟨fun h => ⟨⟨h.1, h.2.1⟩, h.2.2.1, h.2.2.2⟩, fun h => ⟨h.1.1, h.1.2, h.2.1, h.2.2⟩⟩
theorem balanced_all (pub r s : Int) (hp : IsEl pub) (hr : IsEl r) (hs : 0 ≤ s ∧ s < 2305843009213688669) (a : Option Addr) (cap : Nat) (l : List UInt8) (w : World) (hT : Tab w) (hl : RdB w.heap.size w a l) (hcap : l.length ≤ cap) (hc2 : cap ≤ maxLen) (hnil : a = none → cap = 0) (hn : l.length ≤ 70368744177000) :
    Calls Tryd.prog 43 #[claimV pub (.slice a l.length cap) r s] w fun e w' => e = .returned (.bool (balB pub.toNat r.toNat s.toNat l)) ∧ Below w.heap.size w w' := by
  obtain ⟨p, rfl, -⟩ := hp.nat
  obtain ⟨q, rfl, -⟩ := hr.nat
  obtain ⟨t, rfl⟩ : ∃ t : Nat, s = (t : Int) := ⟨s.toNat, by omega⟩
  rw [Int.toNat_natCast, Int.toNat_natCast, Int.toNat_natCast]
  exact isBalanced_any p q t hp hr (by omega) a cap l w hT hl hcap hc2 hnil hn
end Go.Proofs.YtgpcbckpfnhhcaaDoor
