/-
  Package pake: Shared.
-/
import Derived.Test.YtkpecfhcdechmaaDoorJf
namespace Go.Proofs.YtkpecfhcdechmaaDoor
open Go.RowKit
set_option linter.unusedVariables false
set_option linter.unusedSimpArgs false

theorem catB3 (a b c : Int) : catB [a, b, c] = be8 a ++ be8 b ++ be8 c := by simp [catB]
theorem three_cells {w : World} {a b c : Int} : RdN (w.alloc (.cells #[.int .i64 a, .int .i64 b, .int .i64 c] 3)) w.heap.size [a, b, c] := by
  refine ⟨by simp, fun j hj => ?_⟩
  rw [cell_of_row _ _ _ _ _ _ (heap_alloc_new w _)]
  match j, hj with
  | 0, _ => rfl
  | 1, _ => rfl
  | 2, _ => rfl
def zK : List UInt8 := List.replicate 32 0
theorem zK_len : zK.length = 32 := by decide
/-- Behind a side and a key (or a digest) that a call has boxed. -/
structure ShF (w : World) (T : TypeId) (r c n : Int) (Z : List UInt8) (W : World) : Prop where
  below : Below w.heap.size w W
  side : CB W w.heap.size 23 #[.int .i64 r, .int .i64 c, .int .i64 n]
  key : BB W (w.heap.size + 1) T Z
theorem ShF.call {w : World} {T : TypeId} {r c n : Int} {Z : List UInt8} {W W' : World} (h : ShF w T r c n Z W) (hb : Below W.heap.size W W') : ShF w T r c n Z W' :=
  ⟨h.below.trans (hb.mono h.below.size), h.side.call hb, h.key.below hb h.key.lt⟩
def shW (w : World) (T : TypeId) (r c n : Int) : World := (w.alloc (.cells #[.int .i64 r, .int .i64 c, .int .i64 n] 23)).alloc (.cells (bvA zK) T)
theorem ShF.start (w : World) (T : TypeId) (r c n : Int) : ShF w T r c n zK (shW w T r c n) := by
  refine ⟨((Below.refl _ _).alloc (Nat.le_refl _) _).alloc (by simp) _, (CB.new w _ _).alloc _, ?_⟩
  have h := BB.new (w.alloc (.cells #[.int .i64 r, .int .i64 c, .int .i64 n] 23)) T zK
  rw [show (w.alloc (.cells #[.int .i64 r, .int .i64 c, .int .i64 n] 23)).heap.size = w.heap.size + 1 by simp] at h
  exact h
theorem ShF.tab {w : World} {T : TypeId} {r c n : Int} {Z : List UInt8} {W : World} (h : ShF w T r c n Z W) (hT : Tab w) : Tab W := hT.below h.below hT.lt

set_option maxRecDepth 100000 in
set_option maxHeartbeats 3200000 in
theorem Shared_ok1 (c : Int) (n p : Nat) (h : okP 1 c n) (hp : IsEl (p : Int)) (w : World) (hT : Tab w) :
    Calls Tryd.prog 15 #[sidV 1 c n, .int .i64 p] w fun e w' => e = .returned (.tuple #[.agg (bvA (kyP 1 c n p)), .int .i64 0]) ∧ Below w.heap.size w w' := by
  have HT := Lib.hid hT
  have KP := Lib.hid (fun W h2 => Point_ok 1 c n h W h2)
  have KG := Lib.hid (fun W => gCheck_ok p hp W)
  have KR := Lib.hid (fun W => roles_ex W)
  have KL : Hid (∀ W b, RM W b → (Instr.lookup 60 (.map (some b)) (.int .i64 1) false).run Tryd.prog W = .ok (.agg #[.string sHost, .func (.func 61) #[] #[]]) W) := Lib.hid (fun W b h => by
    have k := run_look W b h 1
    rw [show roleV 1 = .agg #[.string sHost, .func (.func 61) #[] #[]] from rfl] at k
    exact k)
  have KZ := Lib.hid (fun W h2 => pshared_any 1 c n p h hp W h2)
  obtain ⟨X, hX⟩ : ∃ X, kyP 1 c n p = X := ⟨_, rfl⟩
  have HL : Hid (X.length = 32) := Lib.hid (by rw [← hX]; exact kyP_len _ _ _ _)
  have hX2 : tagS (ByteArray.mk #[112, 97, 107, 101]).data.toList (catB [(ptP 1 c n : Nat), (p : Nat), (zP 1 c n p : Nat)]) = X := by
    rw [← hX, catB3]; unfold kyP; rw [if_pos rfl]; rfl
  rw [hX]
  obtain ⟨y, hy⟩ : ∃ y, ptP 1 c n = y := ⟨_, rfl⟩
  rw [hy] at KP hX2
  obtain ⟨z, hz⟩ : ∃ z, zP 1 c n p = z := ⟨_, rfl⟩
  rw [hz] at KZ hX2
  have HX := Lib.hid hX2
  have KO := Lib.hid (fun W => order1_any y p W)
  obtain ⟨s, hs⟩ : ∃ s, sHost = s := ⟨_, rfl⟩
  rw [hs] at KL
  have hfl := fun W => run_fld s 61 W
  have HF1 := Lib.hid (ShF.start w 32 1 c n)
  obtain ⟨w1, hw1⟩ : ∃ w1, w1 = shW w 32 1 c n := ⟨_, rfl⟩
  rw [← hw1] at HF1
  unfold sidV at *
  have HLC : Hid ((catB [(y : Int), (p : Int), (z : Int)]).length = 24) := Lib.hid (by rw [catB_len]; rfl)
  clear hT h hp hX hX2 hy hz hs
  go_enter Tryd.func15, Tryd.ntmps15
  go_wp2_with fail
  change Calls _ _ _ (shW w 32 1 c n) _
  rw [← hw1]
  clear hw1
  refine (KP.out _ (HF1.out.tab HT.out)).mono ?_
  rintro e w2 ⟨rfl, hb⟩
  have HF2 := Lib.hid (HF1.out.call hb)
  clear hb HF1 KP
  go_wp2_with fail
  refine (KG.out _).mono ?_
  rintro e w3 ⟨rfl, hb⟩
  have HF3 := Lib.hid (HF2.out.call hb)
  clear hb HF2 KG
  go_wp2_with fail
  have hS3 : w3.drew.cell? ⟨w.heap.size, 0, none⟩ = some (.int .i64 1) ∧ True := ⟨HF3.out.side.cell 0, trivial⟩
  go_region_held3 (fun w' => w'.cell? ⟨w.heap.size, 0, none⟩ = some (.int .i64 1) ∧ True)
    (first
      | exact hS4
      | exact hS3)
    (first
      | (go_at_call 35
         with_reducible refine (KR.out w3.drew).mono ?_
         rintro e w4 ⟨bm, rfl, hrm, hb⟩
         have HF4 := Lib.hid ((HF3.out.call ((Below.refl w3.heap.size w3).drew)).call hb)
         have hlk := KL.out _ _ hrm
         have hS4 : w4.cell? ⟨w.heap.size, 0, none⟩ = some (.int .i64 1) ∧ True := ⟨HF4.out.side.cell 0, trivial⟩
         clear hb hrm)
      | (go_at_call 61
         with_reducible refine (KO.out w4).mono ?_
         rintro e wo ⟨rfl, hwo⟩
         rw [hwo]
         clear hwo wo))
  all_goals
    have c0 : w4.cell? ⟨w.heap.size, 0, none⟩ = some (.int .i64 1) := HF4.out.side.cell 0
    have c1 : w4.cell? ⟨w.heap.size, 1, none⟩ = some (.int .i64 c) := HF4.out.side.cell 1
    have c2 : w4.cell? ⟨w.heap.size, 2, none⟩ = some (.int .i64 n) := HF4.out.side.cell 2
    go_wp2_with fail
    refine (KZ.out _ (HF4.out.tab HT.out)).mono ?_
    rintro e w5 ⟨rfl, hb⟩
    have HF5 := Lib.hid ((HF4.out.call hb).call ((Below.refl w5.heap.size w5).alloc (Nat.le_refl _) (.cells #[.int .i64 (y : Int), .int .i64 (p : Int), .int .i64 z] 3)))
    have HB5 := Lib.hid (bytesP_any w5.heap.size [(y : Int), (p : Int), (z : Int)] (w5.alloc (.cells #[.int .i64 (y : Int), .int .i64 (p : Int), .int .i64 z] 3)) (by simp) three_cells)
    clear hb c0 c1 c2
    go_wp2_with fail
    refine HB5.out.mono ?_
    rintro e w6 ⟨v, rfl, ho, hb⟩
    obtain ⟨a, cap, rfl, -, -⟩ := ho.form
    have HF6 := Lib.hid (HF5.out.call hb)
    have hc := Tagged_any ⟨#[112, 97, 107, 101]⟩ a cap (catB [(y : Int), (p : Int), (z : Int)]) w6 (HF6.out.tab HT.out) ho.rdOf ho.caps.1 ho.caps.2 (by decide) (by rw [HLC.out]; omega)
    rw [HX.out] at hc
    have HC := Lib.hid hc
    clear hc ho hb HF5 HB5
    generalize (catB [(y : Int), (p : Int), (z : Int)]).length = q at *
    go_wp2_with (go_at_call 19; refine HC.out.mono ?_; rintro e w7 ⟨rfl, hb⟩; refine Hid.out ?_)
    refine Lib.hid ?_
    have HF7 := Lib.hid (HF6.out.call hb)
    clear hb HF6 HC
    go_wp2_with (refine wpList_storeA rfl 32 (.tmp 4) (.tmp 40) rfl (w.heap.size + 1) (bvA X) rfl rfl 32 _ HF7.out.key (key_sz _ HL.out) (key_old _ HL.out) (bvA_one _) ?_)
    intro w8 h8 hg8
    have hB8 := grown_below HF7.out.below hg8 (by omega) (by have := HF7.out.key.lt; omega)
    go_wp2_with fail
    refine bodyPost_ret (v := .tuple #[.agg (bvA X), .int .i64 0]) ?_ rfl ⟨rfl, hB8⟩
    exact results_cell_row_tmp rfl _ _ (w.heap.size + 1) 32 _ (0, 0) _ rfl h8 key_und rfl (key_sz _ HL.out) _ rfl

set_option maxRecDepth 100000 in
set_option maxHeartbeats 3200000 in
theorem Shared_ok2 (c : Int) (n p : Nat) (h : okP 2 c n) (hp : IsEl (p : Int)) (w : World) (hT : Tab w) :
    Calls Tryd.prog 15 #[sidV 2 c n, .int .i64 p] w fun e w' => e = .returned (.tuple #[.agg (bvA (kyP 2 c n p)), .int .i64 0]) ∧ Below w.heap.size w w' := by
  have HT := Lib.hid hT
  have KP := Lib.hid (fun W h2 => Point_ok 2 c n h W h2)
  have KG := Lib.hid (fun W => gCheck_ok p hp W)
  have KR := Lib.hid (fun W => roles_ex W)
  have KL : Hid (∀ W b, RM W b → (Instr.lookup 60 (.map (some b)) (.int .i64 2) false).run Tryd.prog W = .ok (.agg #[.string sGuest, .func (.func 62) #[] #[]]) W) := Lib.hid (fun W b h => by
    have k := run_look W b h 2
    rw [show roleV 2 = .agg #[.string sGuest, .func (.func 62) #[] #[]] from rfl] at k
    exact k)
  have KZ := Lib.hid (fun W h2 => pshared_any 2 c n p h hp W h2)
  obtain ⟨X, hX⟩ : ∃ X, kyP 2 c n p = X := ⟨_, rfl⟩
  have HL : Hid (X.length = 32) := Lib.hid (by rw [← hX]; exact kyP_len _ _ _ _)
  have hX2 : tagS (ByteArray.mk #[112, 97, 107, 101]).data.toList (catB [(p : Nat), (ptP 2 c n : Nat), (zP 2 c n p : Nat)]) = X := by
    rw [← hX, catB3]; unfold kyP; rw [if_neg (by decide)]; rfl
  rw [hX]
  obtain ⟨y, hy⟩ : ∃ y, ptP 2 c n = y := ⟨_, rfl⟩
  rw [hy] at KP hX2
  obtain ⟨z, hz⟩ : ∃ z, zP 2 c n p = z := ⟨_, rfl⟩
  rw [hz] at KZ hX2
  have HX := Lib.hid hX2
  have KO := Lib.hid (fun W => order2_any y p W)
  obtain ⟨s, hs⟩ : ∃ s, sGuest = s := ⟨_, rfl⟩
  rw [hs] at KL
  have hfl := fun W => run_fld s 62 W
  have HF1 := Lib.hid (ShF.start w 32 2 c n)
  obtain ⟨w1, hw1⟩ : ∃ w1, w1 = shW w 32 2 c n := ⟨_, rfl⟩
  rw [← hw1] at HF1
  unfold sidV at *
  have HLC : Hid ((catB [(p : Int), (y : Int), (z : Int)]).length = 24) := Lib.hid (by rw [catB_len]; rfl)
  clear hT h hp hX hX2 hy hz hs
  go_enter Tryd.func15, Tryd.ntmps15
  go_wp2_with fail
  change Calls _ _ _ (shW w 32 2 c n) _
  rw [← hw1]
  clear hw1
  refine (KP.out _ (HF1.out.tab HT.out)).mono ?_
  rintro e w2 ⟨rfl, hb⟩
  have HF2 := Lib.hid (HF1.out.call hb)
  clear hb HF1 KP
  go_wp2_with fail
  refine (KG.out _).mono ?_
  rintro e w3 ⟨rfl, hb⟩
  have HF3 := Lib.hid (HF2.out.call hb)
  clear hb HF2 KG
  go_wp2_with fail
  have hS3 : w3.drew.cell? ⟨w.heap.size, 0, none⟩ = some (.int .i64 2) ∧ True := ⟨HF3.out.side.cell 0, trivial⟩
  go_region_held3 (fun w' => w'.cell? ⟨w.heap.size, 0, none⟩ = some (.int .i64 2) ∧ True)
    (first
      | exact hS4
      | exact hS3)
    (first
      | (go_at_call 35
         with_reducible refine (KR.out w3.drew).mono ?_
         rintro e w4 ⟨bm, rfl, hrm, hb⟩
         have HF4 := Lib.hid ((HF3.out.call ((Below.refl w3.heap.size w3).drew)).call hb)
         have hlk := KL.out _ _ hrm
         have hS4 : w4.cell? ⟨w.heap.size, 0, none⟩ = some (.int .i64 2) ∧ True := ⟨HF4.out.side.cell 0, trivial⟩
         clear hb hrm)
      | (go_at_call 62
         with_reducible refine (KO.out w4).mono ?_
         rintro e wo ⟨rfl, hwo⟩
         rw [hwo]
         clear hwo wo))
  all_goals
    have c0 : w4.cell? ⟨w.heap.size, 0, none⟩ = some (.int .i64 2) := HF4.out.side.cell 0
    have c1 : w4.cell? ⟨w.heap.size, 1, none⟩ = some (.int .i64 c) := HF4.out.side.cell 1
    have c2 : w4.cell? ⟨w.heap.size, 2, none⟩ = some (.int .i64 n) := HF4.out.side.cell 2
    go_wp2_with fail
    refine (KZ.out _ (HF4.out.tab HT.out)).mono ?_
    rintro e w5 ⟨rfl, hb⟩
    have HF5 := Lib.hid ((HF4.out.call hb).call ((Below.refl w5.heap.size w5).alloc (Nat.le_refl _) (.cells #[.int .i64 (p : Int), .int .i64 (y : Int), .int .i64 z] 3)))
    have HB5 := Lib.hid (bytesP_any w5.heap.size [(p : Int), (y : Int), (z : Int)] (w5.alloc (.cells #[.int .i64 (p : Int), .int .i64 (y : Int), .int .i64 z] 3)) (by simp) three_cells)
    clear hb c0 c1 c2
    go_wp2_with fail
    refine HB5.out.mono ?_
    rintro e w6 ⟨v, rfl, ho, hb⟩
    obtain ⟨a, cap, rfl, -, -⟩ := ho.form
    have HF6 := Lib.hid (HF5.out.call hb)
    have hc := Tagged_any ⟨#[112, 97, 107, 101]⟩ a cap (catB [(p : Int), (y : Int), (z : Int)]) w6 (HF6.out.tab HT.out) ho.rdOf ho.caps.1 ho.caps.2 (by decide) (by rw [HLC.out]; omega)
    rw [HX.out] at hc
    have HC := Lib.hid hc
    clear hc ho hb HF5 HB5
    generalize (catB [(p : Int), (y : Int), (z : Int)]).length = q at *
    go_wp2_with (go_at_call 19; refine HC.out.mono ?_; rintro e w7 ⟨rfl, hb⟩; refine Hid.out ?_)
    refine Lib.hid ?_
    have HF7 := Lib.hid (HF6.out.call hb)
    clear hb HF6 HC
    go_wp2_with (refine wpList_storeA rfl 32 (.tmp 4) (.tmp 40) rfl (w.heap.size + 1) (bvA X) rfl rfl 32 _ HF7.out.key (key_sz _ HL.out) (key_old _ HL.out) (bvA_one _) ?_)
    intro w8 h8 hg8
    have hB8 := grown_below HF7.out.below hg8 (by omega) (by have := HF7.out.key.lt; omega)
    go_wp2_with fail
    refine bodyPost_ret (v := .tuple #[.agg (bvA X), .int .i64 0]) ?_ rfl ⟨rfl, hB8⟩
    exact results_cell_row_tmp rfl _ _ (w.heap.size + 1) 32 _ (0, 0) _ rfl h8 key_und rfl (key_sz _ HL.out) _ rfl

set_option maxRecDepth 100000 in
set_option maxHeartbeats 1600000 in
theorem Shared_bad1 (r c s p : Int) (h : ¬ okP r c s) (w : World) :
    Calls Tryd.prog 15 #[sidV r c s, .int .i64 p] w fun e w' => e = .returned (.tuple #[.agg (bvA zK), .int .i64 100]) ∧ Below w.heap.size w w' := by
  have KP := Lib.hid (fun W => Point_bad r c s h W)
  have HL := Lib.hid zK_len
  have HF1 := Lib.hid (ShF.start w 32 r c s)
  obtain ⟨w1, hw1⟩ : ∃ w1, w1 = shW w 32 r c s := ⟨_, rfl⟩
  rw [← hw1] at HF1
  unfold sidV at *
  clear h
  go_enter Tryd.func15, Tryd.ntmps15
  go_wp2_with fail
  change Calls _ _ _ (shW w 32 r c s) _
  rw [← hw1]
  clear hw1
  refine (KP.out _).mono ?_
  rintro e w2 ⟨rfl, hb⟩
  have HF2 := Lib.hid (HF1.out.call hb)
  clear hb HF1 KP
  go_wp2_with (first
    | (refine wpList_built rfl 32 #[] rfl [] rfl (bvA zK) (by kernel_rfl) ?_)
    | (refine wpList_storeA rfl 32 (.tmp 4) (.tmp 16) rfl (w.heap.size + 1) (bvA zK) rfl rfl 32 _ HF2.out.key (key_sz _ HL.out) (key_old _ HL.out) (bvA_one _) ?_))
  intro w8 h8 hg8
  have hB8 := grown_below HF2.out.below hg8 (by omega) (by have := HF2.out.key.lt; omega)
  go_wp2_with fail
  refine bodyPost_ret (v := .tuple #[.agg (bvA zK), .int .i64 100]) ?_ rfl ⟨rfl, hB8⟩
  exact results_cell_row_tmp rfl _ _ (w.heap.size + 1) 32 _ (0, 0) _ rfl h8 key_und rfl (key_sz _ HL.out) _ rfl
set_option maxRecDepth 100000 in
set_option maxHeartbeats 1600000 in
theorem Shared_bad2 (r c : Int) (n : Nat) (p : Int) (h : okP r c n) (hp : ¬ IsEl p) (w : World) (hT : Tab w) :
    Calls Tryd.prog 15 #[sidV r c n, .int .i64 p] w fun e w' => e = .returned (.tuple #[.agg (bvA zK), .int .i64 100]) ∧ Below w.heap.size w w' := by
  have HT := Lib.hid hT
  have KP := Lib.hid (fun W h2 => Point_ok r c n h W h2)
  have KG := Lib.hid (fun W => gCheck_bad p hp W)
  have HL := Lib.hid zK_len
  have HF1 := Lib.hid (ShF.start w 32 r c n)
  obtain ⟨w1, hw1⟩ : ∃ w1, w1 = shW w 32 r c n := ⟨_, rfl⟩
  rw [← hw1] at HF1
  obtain ⟨y, hy⟩ : ∃ y, ptP r c n = y := ⟨_, rfl⟩
  rw [hy] at KP
  unfold sidV at *
  clear h hT hp hy
  go_enter Tryd.func15, Tryd.ntmps15
  go_wp2_with fail
  change Calls _ _ _ (shW w 32 r c n) _
  rw [← hw1]
  clear hw1
  refine (KP.out _ (HF1.out.tab HT.out)).mono ?_
  rintro e w2 ⟨rfl, hb⟩
  have HF2 := Lib.hid (HF1.out.call hb)
  clear hb HF1 KP
  go_wp2_with fail
  refine (KG.out _).mono ?_
  rintro e w3 ⟨rfl, hb⟩
  have HF3 := Lib.hid (HF2.out.call hb)
  clear hb HF2 KG
  go_wp2_with (first
    | (refine wpList_built rfl 32 #[] rfl [] rfl (bvA zK) (by kernel_rfl) ?_)
    | (refine wpList_storeA rfl 32 (.tmp 4) (.tmp 21) rfl (w.heap.size + 1) (bvA zK) rfl rfl 32 _ HF3.out.key (key_sz _ HL.out) (key_old _ HL.out) (bvA_one _) ?_))
  intro w8 h8 hg8
  have hB8 := grown_below HF3.out.below hg8 (by omega) (by have := HF3.out.key.lt; omega)
  go_wp2_with fail
  refine bodyPost_ret (v := .tuple #[.agg (bvA zK), .int .i64 100]) ?_ rfl ⟨rfl, hB8⟩
  exact results_cell_row_tmp rfl _ _ (w.heap.size + 1) 32 _ (0, 0) _ rfl h8 key_und rfl (key_sz _ HL.out) _ rfl
/-- What Shared returns. -/
def okS (r c s p : Int) : Prop := okP r c s ∧ IsEl p
open Classical in
noncomputable def kyW (r c s p : Int) : List UInt8 := if okS r c s p then kyP r c s.toNat p.toNat else zK
open Classical in
noncomputable def shE (r c s p : Int) : Int := if okS r c s p then 0 else 100
theorem kyW_ok {r c : Int} {n p : Nat} (h : okS r c n p) : kyW r c n p = kyP r c n p := by unfold kyW; rw [if_pos h, Int.toNat_natCast, Int.toNat_natCast]
theorem kyW_bad {r c s p : Int} (h : ¬ okS r c s p) : kyW r c s p = zK := if_neg h
theorem shE_ok {r c s p : Int} (h : okS r c s p) : shE r c s p = 0 := if_pos h
theorem shE_bad {r c s p : Int} (h : ¬ okS r c s p) : shE r c s p = 100 := if_neg h
theorem kyW_len (r c s p : Int) : (kyW r c s p).length = 32 := by
  unfold kyW
  split
  · exact kyP_len _ _ _ _
  · rfl
theorem okS.nats {r c s p : Int} (h : okS r c s p) : ∃ n q : Nat, s = n ∧ p = q := ⟨s.toNat, p.toNat, by have := h.1.2.2.1; omega, by obtain ⟨m, e, -⟩ := h.2.nat; omega⟩
theorem Shared_any (r c s p : Int) (w : World) (hT : Tab w) :
    Calls Tryd.prog 15 #[sidV r c s, .int .i64 p] w fun e w' => e = .returned (.tuple #[.agg (bvA (kyW r c s p)), .int .i64 (shE r c s p)]) ∧ Below w.heap.size w w' := by
  by_cases h : okS r c s p
  · obtain ⟨n, q, rfl, rfl⟩ := h.nats
    rw [kyW_ok h, shE_ok h]
    obtain ⟨h1, h2⟩ := h
    obtain rfl | rfl : r = 1 ∨ r = 2 := by unfold okP at h1; omega
    · exact Shared_ok1 c n q h1 h2 w hT
    · exact Shared_ok2 c n q h1 h2 w hT
  · rw [kyW_bad h, shE_bad h]
    by_cases h1 : okP r c s
    · obtain ⟨n, rfl⟩ : ∃ n : Nat, s = n := ⟨s.toNat, by have := h1.2.2.1; omega⟩
      exact Shared_bad2 r c n p h1 (fun h2 => h ⟨h1, h2⟩) w hT
    · exact Shared_bad1 r c s p h1 w
end Go.Proofs.YtkpecfhcdechmaaDoor
