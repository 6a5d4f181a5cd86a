/-
  The reference of cipher: Block and Stream.
-/
import Derived.Test.YtcibbghggfklbaaDoorRb
import Derived.Test.YtcibbghggfklbaaDoorCl
namespace Go.Proofs.YtcibbghggfklbaaDoor
open Go.RowKit
set_option linter.unusedVariables false
set_option linter.unusedSimpArgs false

set_option maxRecDepth 100000 in
theorem refBlockAny (k n : List UInt8) (hk : k.length = 32) (hn : n.length = 12) (c : Int) (w : World) :
    Calls Tryd.prog 13 #[.agg (bvA k), .agg (bvA n), .int .i64 c] w (AnsR (blockX k n c) (blockE c) w) := by
  have HKN := Lib.hid (KN.start w k n)
  by_cases h : 0 ≤ c ∧ c < 4294967296
  · have HSK := Lib.hid (key_size k hk)
    have HSN := Lib.hid (nonce_size n hn)
    unfold blockX blockE
    rw [if_pos h, if_pos h]
    obtain ⟨m, rfl⟩ : ∃ m : Nat, c = (m : Int) := ⟨c.toNat, by omega⟩
    rw [Int.toNat_natCast]
    have HC := Lib.hid (fun W => refBlock6 k n m hk hn (by omega) W)
    have f1 : decide ((m : Int) < 0) = false := decide_eq_false (by omega)
    have f2 : decide ((4294967295 : Int) < (m : Int)) = false := decide_eq_false (by omega)
    clear hk hn h
    go_enter Tryd.func13, Tryd.ntmps13
    go_wp2_with (first
      | (refine wpList_load_row rfl 23 (.tmp 3) rfl w.heap.size rfl _ (bvA k) (0, 0) _ HKN.out.key Tryd.underlying23 rfl HSK.out ?_)
      | (refine wpList_load_row rfl 25 (.tmp 4) rfl (w.heap.size + 1) rfl _ (bvA n) (0, 0) _ HKN.out.nonce Tryd.underlying25 rfl HSN.out ?_)
      | (go_at_call 23; with_reducible refine (HC.out _).mono ?_; rintro e w2 ⟨v, rfl, ho2, hb2⟩))
    go_ret2
    exact ⟨_, rfl, ho2.rdv, (HKN.out.call hb2).below⟩
  · unfold blockX blockE
    rw [if_neg h, if_neg h]
    by_cases h1 : c < 0
    · have f1 : decide (c < 0) = true := decide_eq_true h1
      go_enter Tryd.func13, Tryd.ntmps13
      go_wp2_with fail
      go_ret2
      exact ⟨_, rfl, RdV.nil _, HKN.out.below⟩
    · have f1 : decide (c < 0) = false := decide_eq_false h1
      have f2 : decide ((4294967295 : Int) < c) = true := decide_eq_true (by omega)
      go_enter Tryd.func13, Tryd.ntmps13
      go_wp2_with fail
      go_ret2
      exact ⟨_, rfl, RdV.nil _, HKN.out.below⟩

/-- What the reference's Stream keeps: the block's bytes. -/
def RxI (wr : World) (v : Value) (Y : List UInt8) (ax : Option Addr) (nx : Nat) : Prop := ∃ bx ox, ax = some ⟨bx, ox, none⟩ ∧ nx = 64 ∧ bx < wr.heap.size ∧ (∀ j, j < 64 → wr.cell? ⟨bx, ox + j, none⟩ = some (.int .u8 ((Y.getD j 0).toNat : Int))) ∧ v.ownBlock ≠ some bx
theorem OwnB.lt_of_own {B : Nat} {w : World} {v : Value} {l : List UInt8} (h : OwnB B w v l) {g : Nat} (e : v.ownBlock = some g) : g < w.heap.size := (World.ownsRow.lt h g e).2
theorem take_snoc (X : List UInt8) (m : Nat) (h : m < X.length) : X.take (m + 1) = X.take m ++ [X.getD m 0] := by
  rw [List.take_succ_eq_append_getElem h, List.getD, List.getElem?_eq_getElem h]; rfl

set_option maxRecDepth 100000 in
set_option maxHeartbeats 4000000 in
theorem refStreamAny (k n : List UInt8) (hk : k.length = 32) (hn : n.length = 12) (l : List UInt8) (a : Option Addr) (q cap : Nat) (w : World) (hl : RdV w (.slice a q cap) l) :
    Calls Tryd.prog 15 #[.agg (bvA k), .agg (bvA n), .slice a q cap] w (AnsO (streamX k n l) (streamE l) w) := by
  have HKN := Lib.hid (KN.start w k n)
  have hq := hl.len
  unfold streamX streamE
  by_cases h : 65536 < q
  · have f1 : decide ((65536 : Int) < (q : Int)) = true := decide_eq_true (by omega)
    rw [if_neg (by omega), if_neg (by omega)]
    clear hq
    go_enter Tryd.func15, Tryd.ntmps15
    go_wp2_with fail
    go_ret2
    exact ⟨_, rfl, OwnB.nil _ _, HKN.out.below⟩
  have f1 : decide ((65536 : Int) < (q : Int)) = false := decide_eq_false (by omega)
  rw [if_pos (by omega), if_pos (by omega)]
  have HSK := Lib.hid (key_size k hk)
  have HSN := Lib.hid (nonce_size n hn)
  have HLK := Lib.hid hk
  have HLN := Lib.hid hn
  have HL := Lib.hid hl
  have HQ := Lib.hid hq
  have HXL : Hid ((cstream k n l).length = q) := Lib.hid (by rw [cstream_len, hq])
  have HXG : Hid (∀ m, m < q → (cstream k n l).getD m 0 = l.getD m 0 ^^^ cbyte k n m) := Lib.hid (fun m hm => cstream_getD k n l m (by omega))
  have iq : (q : Int) ≤ 65536 := by omega
  have HQ16 : Hid (q ≤ 65536) := Lib.hid (by omega)
  clear hk hn hl hq h
  obtain ⟨w1, hw1⟩ : ∃ w1, w1 = (w.alloc (.cells (bvA k) 23)).alloc (.cells (bvA n) 25) := ⟨_, rfl⟩
  rw [← hw1] at HKN
  have HO0 : Hid (OwnB w1.heap.size ((w1.alloc (.cells #[] 5)).alloc (.cells #[] 5)) (.slice (some ⟨w1.heap.size, 0, none⟩) 0 0) []) := Lib.hid ((OwnB.emptyB (Nat.le_refl _)).alloc _)
  have HB0 : Hid (Below w1.heap.size w1 ((w1.alloc (.cells #[] 5)).alloc (.cells #[] 5))) := Lib.hid (((Below.refl _ _).alloc (Nat.le_refl _) _).alloc (by rw [alloc_size]; omega) _)
  have hws : w1.heap.size = w.heap.size + 1 + 1 := by rw [hw1, alloc_size, alloc_size]
  rw [hws] at HO0
  have HWS := Lib.hid hws
  rw [hw1] at HO0 HB0
  have HW1 := Lib.hid hw1
  clear hws hw1
  go_enter Tryd.func15, Tryd.ntmps15
  go_wp2_with fail
  rw [← HW1.out] at HO0 HB0 ⊢
  rw [← HWS.out] at HO0
  obtain ⟨X, hX⟩ : ∃ X, cstream k n l = X := ⟨_, rfl⟩
  rw [hX] at HXL HXG
  have HXX := Lib.hid hX
  clear HW1 hX
  go_loopw [10, 8, 9] (fun i v xv wr => ∃ m : Nat, m ≤ q ∧ i = .int .i64 m ∧ ∃ (a0 : Option Addr) (c0 : Nat), v = .slice a0 m c0 ∧ OwnB w1.heap.size wr (.slice a0 m c0) (X.take m) ∧ ∃ (ax : Option Addr) (nx cx : Nat), xv = .slice ax nx cx ∧ (m % 64 ≠ 0 → RxI wr (.slice a0 m c0) (cblock k n (1 + m / 64)) ax nx) ∧ Below w1.heap.size w1 wr) (fun i _ _ _ => q - (intOf i).toNat)
  case atStart => exact ⟨0, by omega, rfl, some ⟨w.heap.size + 1 + 1, 0, none⟩, 0, rfl, by rw [← HWS.out]; exact HO0.out, _, _, _, rfl, fun e => absurd rfl e, HB0.out⟩
  case round =>
    clear HO0 HB0
    obtain ⟨m, hm, rfl, a0, c0, rfl, ho, ax, nx, cx, rfl, hx, hb⟩ := hrel
    have HO := Lib.hid ho
    have HB := Lib.hid hb
    have HKr := Lib.hid (HKN.out.call hb)
    clear ho hb
    by_cases hlt : m < q
    · have im : (m : Int) < (q : Int) := by omega
      obtain ⟨b, o, rfl, hbB, CL⟩ := HL.out.cell (by omega)
      have HCL : Hid (∀ W, Below w.heap.size w W → W.cell? ⟨b, o + m, none⟩ = some (.int .u8 ((l.getD m 0).toNat : Int))) := Lib.hid (fun W hW => (hW.cell (p := ⟨b, o + m, none⟩) hbB).trans (CL m hlt))
      have HXM := Lib.hid (HXG.out m hlt)
      have HTK := Lib.hid (take_snoc X m (by rw [HXL.out]; exact hlt))
      have HTL : Hid ((X.take m).length = m) := Lib.hid (by rw [List.length_take, HXL.out]; omega)
      clear CL
      obtain ⟨r, hr⟩ : ∃ r, r = m % 64 := ⟨_, rfl⟩
      have tr : (m : Int).tmod 64 = (r : Int) := by rw [Int.tmod_eq_emod_of_nonneg (by omega)]; omega
      have HCBY := Lib.hid (cbyte_eq k n m r (1 + m / 64) hr rfl)
      have HR := Lib.hid hr
      by_cases hmod : r = 0
      · have ft : ((r : Int) == 0) = true := by rw [hmod]; rfl
        have HMOD := Lib.hid hmod
        clear hr hmod
        go_wp2_with (first
          | (refine wpList_load_row rfl 23 (.tmp 3) rfl w.heap.size rfl _ (bvA k) (0, 0) _ HKr.out.key Tryd.underlying23 rfl HSK.out ?_)
          | (refine wpList_load_row rfl 25 (.tmp 4) rfl (w.heap.size + 1) rfl _ (bvA n) (0, 0) _ HKr.out.nonce Tryd.underlying25 rfl HSN.out ?_))
        rw [show (1 + (m : Int) / 64) = ((1 + m / 64 : Nat) : Int) by omega]
        refine (refBlock6 k n (1 + m / 64) HLK.out HLN.out (by have := HQ16.out; omega) wr).mono ?_
        rintro e w2 ⟨v2, rfl, ho2, hb2⟩
        obtain ⟨a2, c2, hv2, hf2, -⟩ := ho2.form
        have hrd := ho2.rdv
        subst hv2
        rw [cblock_len] at hrd ⊢
        obtain ⟨bx, ox, hax, hbx, CX⟩ := hrd.cell (by decide)
        subst hax
        have hge : wr.heap.size ≤ bx := by
          rcases hf2 with ⟨h1, _⟩ | ⟨g, h1, h2, _⟩
          · cases h1
          · injection h1 with h1; injection h1 with h1; omega
        have HRX : Hid (RxI w2 (.slice a0 m c0) (cblock k n (1 + m / 64)) (some ⟨bx, ox, none⟩) 64) := Lib.hid ⟨bx, ox, rfl, rfl, hbx, CX, fun e => by have := HO.out.lt_of_own e; omega⟩
        have HO2 := Lib.hid (HO.out.below hb2)
        have HB2 := Lib.hid (HB.out.trans (hb2.mono HB.out.size))
        have HR' := HR
        clear hb2 ho2 hf2 hrd hbx CX hge HO HB HKr hx HMOD HR
        obtain ⟨Y, hY⟩ : ∃ Y, cblock k n (1 + m / 64) = Y := ⟨_, rfl⟩
        rw [hY] at HRX HCBY
        have HYY := Lib.hid hY
        clear hY
        obtain ⟨bx', ox', hax, -, hbx, CX, hne⟩ := HRX.out
        injection hax with hax
        injection hax with e1 e2
        subst e1; subst e2
        have r64 : r < 64 := by have := HR'.out; omega
        have ir : (r : Int) < 64 := by omega
        have HNE := Lib.hid hne
        have HCX := Lib.hid CX
        have HBX := Lib.hid hbx
        have cx1 := CX r r64
        have cl1 := HCL.out w2 (HKN.out.below.trans (HB2.out.mono HKN.out.below.size))
        have hxy := bv_xor (l.getD m 0) (Y.getD r 0)
        rw [← HCBY.out, ← HXM.out] at hxy
        rw [← HCBY.out] at cx1
        generalize l.getD m 0 = x at *
        generalize X.getD m 0 = z at *
        generalize cbyte k n m = y at *
        have HLN2 : Hid ((X.take m).length + [z].length ≤ 140737488355328) := Lib.hid (by rw [HTL.out, List.length_singleton]; omega)
        clear hne CX hbx HRX HCL HXM
        go_wp2_with fail
        refine wp_region_held_drew (S := fun W => W.cell? ⟨b, o + m, none⟩ = some (.int .u8 (x.toNat : Int)) ∧ W.cell? ⟨bx, ox + r, none⟩ = some (.int .u8 (y.toNat : Int))) (by kernel_rfl) ⟨cl1, cx1⟩ (fun hHeld => ?_)
        refine wpAnyH_take (i := 0) (v := .slice a0 m c0) rfl (by kernel_rfl) (by kernel_rfl) (by kernel_rfl) (fun _ _ _ h => h) (Or.inl ⟨by rfl, fun w _ => by go_simp⟩) hHeld ?_
        simp only [Act.put, List.getElem_toArray, List.getElem_cons_zero, List.getElem_cons_succ, List.setIfInBounds_toArray, List.set_cons_zero, List.set_cons_succ]
        refine wpAnyH_take (i := 1) (v := .slice (some ⟨b, o, none⟩) q cap) rfl (by kernel_rfl) (by kernel_rfl) (by kernel_rfl) (fun _ _ _ h => h) (Or.inl ⟨by rfl, fun w _ => by go_simp⟩) hHeld ?_
        simp only [Act.put, List.getElem_toArray, List.getElem_cons_zero, List.getElem_cons_succ, List.setIfInBounds_toArray, List.set_cons_zero, List.set_cons_succ]
        refine wpAnyH_take (i := 2) (v := .int .i64 m) rfl (by kernel_rfl) (by kernel_rfl) (by kernel_rfl) (fun _ _ _ h => h) (Or.inl ⟨by rfl, fun w _ => by go_simp⟩) hHeld ?_
        simp only [Act.put, List.getElem_toArray, List.getElem_cons_zero, List.getElem_cons_succ, List.setIfInBounds_toArray, List.set_cons_zero, List.set_cons_succ]
        refine wpAnyH_take (i := 3) (v := .pointer (some ⟨b, o + m, none⟩)) rfl (by kernel_rfl) (by kernel_rfl) (by kernel_rfl) (fun _ _ _ h => h) (Or.inl ⟨by rfl, fun w _ => by go_simp⟩) hHeld ?_
        simp only [Act.put, List.getElem_toArray, List.getElem_cons_zero, List.getElem_cons_succ, List.setIfInBounds_toArray, List.set_cons_zero, List.set_cons_succ]
        refine wpAnyH_take (i := 4) (v := .int .u8 (x.toNat : Int)) rfl (by kernel_rfl) (by kernel_rfl) (by kernel_rfl) (fun _ _ _ h => h) (Or.inl ⟨by rfl, fun w hS => by obtain ⟨hS1, hS2⟩ := hS; go_simp⟩) hHeld ?_
        simp only [Act.put, List.getElem_toArray, List.getElem_cons_zero, List.getElem_cons_succ, List.setIfInBounds_toArray, List.set_cons_zero, List.set_cons_succ]
        refine wpAnyH_take (i := 5) (v := .slice (some ⟨bx, ox, none⟩) 64 c2) rfl (by kernel_rfl) (by kernel_rfl) (by kernel_rfl) (fun _ _ _ h => h) (Or.inl ⟨by rfl, fun w _ => by go_simp⟩) hHeld ?_
        simp only [Act.put, List.getElem_toArray, List.getElem_cons_zero, List.getElem_cons_succ, List.setIfInBounds_toArray, List.set_cons_zero, List.set_cons_succ]
        refine wpAnyH_take (i := 6) (v := .int .i64 m) rfl (by kernel_rfl) (by kernel_rfl) (by kernel_rfl) (fun _ _ _ h => h) (Or.inl ⟨by rfl, fun w _ => by go_simp⟩) hHeld ?_
        simp only [Act.put, List.getElem_toArray, List.getElem_cons_zero, List.getElem_cons_succ, List.setIfInBounds_toArray, List.set_cons_zero, List.set_cons_succ]
        refine wpAnyH_take (i := 7) (v := .int .i64 r) rfl (by kernel_rfl) (by kernel_rfl) (by kernel_rfl) (fun _ _ _ h => h) (Or.inl ⟨by rfl, fun w _ => by go_simp⟩) hHeld ?_
        simp only [Act.put, List.getElem_toArray, List.getElem_cons_zero, List.getElem_cons_succ, List.setIfInBounds_toArray, List.set_cons_zero, List.set_cons_succ]
        refine wpAnyH_take (i := 8) (v := .pointer (some ⟨bx, ox + r, none⟩)) rfl (by kernel_rfl) (by kernel_rfl) (by kernel_rfl) (fun _ _ _ h => h) (Or.inl ⟨by rfl, fun w _ => by go_simp⟩) hHeld ?_
        simp only [Act.put, List.getElem_toArray, List.getElem_cons_zero, List.getElem_cons_succ, List.setIfInBounds_toArray, List.set_cons_zero, List.set_cons_succ]
        refine wpAnyH_take (i := 9) (v := .int .u8 (y.toNat : Int)) rfl (by kernel_rfl) (by kernel_rfl) (by kernel_rfl) (fun _ _ _ h => h) (Or.inl ⟨by rfl, fun w hS => by obtain ⟨hS1, hS2⟩ := hS; go_simp⟩) hHeld ?_
        simp only [Act.put, List.getElem_toArray, List.getElem_cons_zero, List.getElem_cons_succ, List.setIfInBounds_toArray, List.set_cons_zero, List.set_cons_succ]
        refine wpAnyH_take (i := 10) (v := .int .u8 (z.toNat : Int)) rfl (by kernel_rfl) (by kernel_rfl) (by kernel_rfl) (fun _ _ _ h => h) (Or.inl ⟨by rfl, fun w _ => by go_simp⟩) hHeld ?_
        simp only [Act.put, List.getElem_toArray, List.getElem_cons_zero, List.getElem_cons_succ, List.setIfInBounds_toArray, List.set_cons_zero, List.set_cons_succ]
        refine wpAnyH_ready (rs := [11]) (by kernel_rfl) (by simp) (AllReadyH.cons rfl (fun K hK => ?_) AllReadyH.nil)
        go_simp
        have hb3 : Below w2.heap.size w2 ((w2.alloc (.cells #[.int .u8 (z.toNat : Int)] 5)).drew) := ((Below.refl _ _).alloc (Nat.le_refl _) _).drew
        have HO3 := Lib.hid (HO2.out.below hb3)
        have HB3 := Lib.hid (HB2.out.trans (hb3.mono HB2.out.size))
        have HR3 : Hid (RdV ((w2.alloc (.cells #[.int .u8 (z.toNat : Int)] 5)).drew) (.slice (some ⟨w2.heap.size, 0, none⟩) 1 1) [z]) := Lib.hid (RdV.one w2 z)
        have cl3 := (hb3.cell (p := ⟨b, o + m, none⟩) (World.block_lt_of_cell? w2 _ cl1)).trans cl1
        have cx3 := (hb3.cell (p := ⟨bx, ox + r, none⟩) HBX.out).trans cx1
        have HCX3 : Hid (bx < ((w2.alloc (.cells #[.int .u8 (z.toNat : Int)] 5)).drew).heap.size ∧ ∀ j, j < 64 → ((w2.alloc (.cells #[.int .u8 (z.toNat : Int)] 5)).drew).cell? ⟨bx, ox + j, none⟩ = some (.int .u8 ((Y.getD j 0).toNat : Int))) := Lib.hid ⟨Nat.lt_of_lt_of_le HBX.out hb3.size, fun j hj => (hb3.cell (p := ⟨bx, ox + j, none⟩) HBX.out).trans (HCX.out j hj)⟩
        have hlt3 := World.block_lt_of_cell? w2 _ cl1
        refine hK.out _ _ ⟨cl3, cx3⟩ (fun hHeld => ?_)
        clear hK K hb3 HCX HBX HO2 HB2
        try simp only [Act.put, List.getElem_toArray, List.getElem_cons_zero, List.getElem_cons_succ, List.setIfInBounds_toArray, List.set_cons_zero, List.set_cons_succ]
        generalize (w2.alloc (.cells #[.int .u8 (z.toNat : Int)] 5)).drew = w4 at *
        refine wpAnyH_ready (rs := [12]) (by kernel_rfl) (by simp) (AllReadyH.cons rfl (fun K hK => ?_) AllReadyH.nil)
        rw [if_pos (by rfl)]
        obtain ⟨a', c', he, g1, g2', g3, g4⟩ := HR3.out.form
        injection he with e1 e2 e3
        subst e1; subst e3; clear e2
        refine wp_appB (.tmp 31) (.tmp 42) rfl w1.heap.size _ (X.take m) [z] _ _ rfl HO3.out rfl g1 g4 HLN2.out HB3.out.size ?_
        intro v5 w5 ho5 hg5
        have HB5 := Lib.hid (HB3.out.trans (hg5.below (fun r hr => HO3.out.base r hr) HB3.out.size))
        have cl5 : w5.cell? ⟨b, o + m, none⟩ = some (.int .u8 (x.toNat : Int)) := (HB5.out.cell (p := ⟨b, o + m, none⟩) (Nat.lt_of_lt_of_le hbB HKN.out.below.size)).trans ((HB3.out.cell (p := ⟨b, o + m, none⟩) (Nat.lt_of_lt_of_le hbB HKN.out.below.size)).symm.trans cl3)
        have cx5 := (hg5.cell (p := ⟨bx, ox + r, none⟩) HCX3.out.1 HNE.out).trans cx3
        have hne5 := hg5.ne HNE.out HCX3.out.1
        have HCX5 : Hid (bx < w5.heap.size ∧ ∀ j, j < 64 → w5.cell? ⟨bx, ox + j, none⟩ = some (.int .u8 ((Y.getD j 0).toNat : Int))) := Lib.hid ⟨Nat.lt_of_lt_of_le HCX3.out.1 hg5.size, fun j hj => (hg5.cell (p := ⟨bx, ox + j, none⟩) HCX3.out.1 HNE.out).trans (HCX3.out.2 j hj)⟩
        rw [← HTK.out] at ho5
        obtain ⟨a5, c5, hv5, -, -⟩ := ho5.form
        subst hv5
        have HT5 : Hid ((X.take (m + 1)).length = m + 1) := Lib.hid (by rw [List.length_take, HXL.out]; omega)
        rw [HT5.out] at ho5 hne5 ⊢
        have HO5 := Lib.hid ho5
        have HN5 := Lib.hid hne5
        refine hK.out _ _ ⟨cl5, cx5⟩ (fun hHeld => ?_)
        clear hK K hg5 ho5 hne5 HR3 HO3 HB3 HCX3 cl5 cx5 cl3 cx3 cl1 cx1
        try simp only [Act.put, List.getElem_toArray, List.getElem_cons_zero, List.getElem_cons_succ, List.setIfInBounds_toArray, List.set_cons_zero, List.set_cons_succ]
        refine wpAnyH_take (i := 13) (v := .slice a5 (m + 1) c5) rfl (by kernel_rfl) (by kernel_rfl) (by kernel_rfl) (fun _ _ _ h => h) (Or.inl ⟨by rfl, fun w _ => by go_simp⟩) hHeld ?_
        simp only [Act.put, List.getElem_toArray, List.getElem_cons_zero, List.getElem_cons_succ, List.setIfInBounds_toArray, List.set_cons_zero, List.set_cons_succ]
        refine wpAnyH_done (by kernel_rfl) ?_ _
        go_wp2_with fail
        go_roundw
        case rel =>
          exact ⟨m + 1, by omega, by go_num, a5, c5, rfl, HO5.out, _, _, _, rfl, (fun h => by
            rw [show (m + 1) / 64 = m / 64 by omega, HYY.out]
            exact ⟨bx, ox, rfl, rfl, HCX5.out.1, HCX5.out.2, HN5.out⟩), HB5.out⟩
        case measure => simp [intOf]; omega
      · have ft : ((r : Int) == 0) = false := by rw [beq_eq_false_iff_ne]; omega
        have HRX := Lib.hid (hx (by rw [← hr]; exact hmod))
        obtain ⟨bx, ox, hax, hnx, -⟩ := hx (by rw [← hr]; exact hmod)
        subst hax; subst hnx
        have HO2 := HO
        have HB2 := HB
        have HR' := HR
        clear hr hmod hx HO HB HKr HR
        obtain ⟨Y, hY⟩ : ∃ Y, cblock k n (1 + m / 64) = Y := ⟨_, rfl⟩
        rw [hY] at HRX HCBY
        have HYY := Lib.hid hY
        clear hY
        obtain ⟨bx', ox', hax, -, hbx, CX, hne⟩ := HRX.out
        injection hax with hax
        injection hax with e1 e2
        subst e1; subst e2
        have r64 : r < 64 := by have := HR'.out; omega
        have ir : (r : Int) < 64 := by omega
        have HNE := Lib.hid hne
        have HCX := Lib.hid CX
        have HBX := Lib.hid hbx
        have cx1 := CX r r64
        have cl1 := HCL.out wr (HKN.out.below.trans (HB2.out.mono HKN.out.below.size))
        have hxy := bv_xor (l.getD m 0) (Y.getD r 0)
        rw [← HCBY.out, ← HXM.out] at hxy
        rw [← HCBY.out] at cx1
        generalize l.getD m 0 = x at *
        generalize X.getD m 0 = z at *
        generalize cbyte k n m = y at *
        have HLN2 : Hid ((X.take m).length + [z].length ≤ 140737488355328) := Lib.hid (by rw [HTL.out, List.length_singleton]; omega)
        clear hne CX hbx HRX HCL HXM
        go_wp2_with fail
        refine wp_region_held_drew (S := fun W => W.cell? ⟨b, o + m, none⟩ = some (.int .u8 (x.toNat : Int)) ∧ W.cell? ⟨bx, ox + r, none⟩ = some (.int .u8 (y.toNat : Int))) (by kernel_rfl) ⟨cl1, cx1⟩ (fun hHeld => ?_)
        refine wpAnyH_take (i := 0) (v := .slice a0 m c0) rfl (by kernel_rfl) (by kernel_rfl) (by kernel_rfl) (fun _ _ _ h => h) (Or.inl ⟨by rfl, fun w _ => by go_simp⟩) hHeld ?_
        simp only [Act.put, List.getElem_toArray, List.getElem_cons_zero, List.getElem_cons_succ, List.setIfInBounds_toArray, List.set_cons_zero, List.set_cons_succ]
        refine wpAnyH_take (i := 1) (v := .slice (some ⟨b, o, none⟩) q cap) rfl (by kernel_rfl) (by kernel_rfl) (by kernel_rfl) (fun _ _ _ h => h) (Or.inl ⟨by rfl, fun w _ => by go_simp⟩) hHeld ?_
        simp only [Act.put, List.getElem_toArray, List.getElem_cons_zero, List.getElem_cons_succ, List.setIfInBounds_toArray, List.set_cons_zero, List.set_cons_succ]
        refine wpAnyH_take (i := 2) (v := .int .i64 m) rfl (by kernel_rfl) (by kernel_rfl) (by kernel_rfl) (fun _ _ _ h => h) (Or.inl ⟨by rfl, fun w _ => by go_simp⟩) hHeld ?_
        simp only [Act.put, List.getElem_toArray, List.getElem_cons_zero, List.getElem_cons_succ, List.setIfInBounds_toArray, List.set_cons_zero, List.set_cons_succ]
        refine wpAnyH_take (i := 3) (v := .pointer (some ⟨b, o + m, none⟩)) rfl (by kernel_rfl) (by kernel_rfl) (by kernel_rfl) (fun _ _ _ h => h) (Or.inl ⟨by rfl, fun w _ => by go_simp⟩) hHeld ?_
        simp only [Act.put, List.getElem_toArray, List.getElem_cons_zero, List.getElem_cons_succ, List.setIfInBounds_toArray, List.set_cons_zero, List.set_cons_succ]
        refine wpAnyH_take (i := 4) (v := .int .u8 (x.toNat : Int)) rfl (by kernel_rfl) (by kernel_rfl) (by kernel_rfl) (fun _ _ _ h => h) (Or.inl ⟨by rfl, fun w hS => by obtain ⟨hS1, hS2⟩ := hS; go_simp⟩) hHeld ?_
        simp only [Act.put, List.getElem_toArray, List.getElem_cons_zero, List.getElem_cons_succ, List.setIfInBounds_toArray, List.set_cons_zero, List.set_cons_succ]
        refine wpAnyH_take (i := 5) (v := .slice (some ⟨bx, ox, none⟩) 64 cx) rfl (by kernel_rfl) (by kernel_rfl) (by kernel_rfl) (fun _ _ _ h => h) (Or.inl ⟨by rfl, fun w _ => by go_simp⟩) hHeld ?_
        simp only [Act.put, List.getElem_toArray, List.getElem_cons_zero, List.getElem_cons_succ, List.setIfInBounds_toArray, List.set_cons_zero, List.set_cons_succ]
        refine wpAnyH_take (i := 6) (v := .int .i64 m) rfl (by kernel_rfl) (by kernel_rfl) (by kernel_rfl) (fun _ _ _ h => h) (Or.inl ⟨by rfl, fun w _ => by go_simp⟩) hHeld ?_
        simp only [Act.put, List.getElem_toArray, List.getElem_cons_zero, List.getElem_cons_succ, List.setIfInBounds_toArray, List.set_cons_zero, List.set_cons_succ]
        refine wpAnyH_take (i := 7) (v := .int .i64 r) rfl (by kernel_rfl) (by kernel_rfl) (by kernel_rfl) (fun _ _ _ h => h) (Or.inl ⟨by rfl, fun w _ => by go_simp⟩) hHeld ?_
        simp only [Act.put, List.getElem_toArray, List.getElem_cons_zero, List.getElem_cons_succ, List.setIfInBounds_toArray, List.set_cons_zero, List.set_cons_succ]
        refine wpAnyH_take (i := 8) (v := .pointer (some ⟨bx, ox + r, none⟩)) rfl (by kernel_rfl) (by kernel_rfl) (by kernel_rfl) (fun _ _ _ h => h) (Or.inl ⟨by rfl, fun w _ => by go_simp⟩) hHeld ?_
        simp only [Act.put, List.getElem_toArray, List.getElem_cons_zero, List.getElem_cons_succ, List.setIfInBounds_toArray, List.set_cons_zero, List.set_cons_succ]
        refine wpAnyH_take (i := 9) (v := .int .u8 (y.toNat : Int)) rfl (by kernel_rfl) (by kernel_rfl) (by kernel_rfl) (fun _ _ _ h => h) (Or.inl ⟨by rfl, fun w hS => by obtain ⟨hS1, hS2⟩ := hS; go_simp⟩) hHeld ?_
        simp only [Act.put, List.getElem_toArray, List.getElem_cons_zero, List.getElem_cons_succ, List.setIfInBounds_toArray, List.set_cons_zero, List.set_cons_succ]
        refine wpAnyH_take (i := 10) (v := .int .u8 (z.toNat : Int)) rfl (by kernel_rfl) (by kernel_rfl) (by kernel_rfl) (fun _ _ _ h => h) (Or.inl ⟨by rfl, fun w _ => by go_simp⟩) hHeld ?_
        simp only [Act.put, List.getElem_toArray, List.getElem_cons_zero, List.getElem_cons_succ, List.setIfInBounds_toArray, List.set_cons_zero, List.set_cons_succ]
        refine wpAnyH_ready (rs := [11]) (by kernel_rfl) (by simp) (AllReadyH.cons rfl (fun K hK => ?_) AllReadyH.nil)
        go_simp
        have hb3 : Below wr.heap.size wr ((wr.alloc (.cells #[.int .u8 (z.toNat : Int)] 5)).drew) := ((Below.refl _ _).alloc (Nat.le_refl _) _).drew
        have HO3 := Lib.hid (HO2.out.below hb3)
        have HB3 := Lib.hid (HB2.out.trans (hb3.mono HB2.out.size))
        have HR3 : Hid (RdV ((wr.alloc (.cells #[.int .u8 (z.toNat : Int)] 5)).drew) (.slice (some ⟨wr.heap.size, 0, none⟩) 1 1) [z]) := Lib.hid (RdV.one wr z)
        have cl3 := (hb3.cell (p := ⟨b, o + m, none⟩) (World.block_lt_of_cell? wr _ cl1)).trans cl1
        have cx3 := (hb3.cell (p := ⟨bx, ox + r, none⟩) HBX.out).trans cx1
        have HCX3 : Hid (bx < ((wr.alloc (.cells #[.int .u8 (z.toNat : Int)] 5)).drew).heap.size ∧ ∀ j, j < 64 → ((wr.alloc (.cells #[.int .u8 (z.toNat : Int)] 5)).drew).cell? ⟨bx, ox + j, none⟩ = some (.int .u8 ((Y.getD j 0).toNat : Int))) := Lib.hid ⟨Nat.lt_of_lt_of_le HBX.out hb3.size, fun j hj => (hb3.cell (p := ⟨bx, ox + j, none⟩) HBX.out).trans (HCX.out j hj)⟩
        have hlt3 := World.block_lt_of_cell? wr _ cl1
        refine hK.out _ _ ⟨cl3, cx3⟩ (fun hHeld => ?_)
        clear hK K hb3 HCX HBX HO2 HB2
        try simp only [Act.put, List.getElem_toArray, List.getElem_cons_zero, List.getElem_cons_succ, List.setIfInBounds_toArray, List.set_cons_zero, List.set_cons_succ]
        generalize (wr.alloc (.cells #[.int .u8 (z.toNat : Int)] 5)).drew = w4 at *
        refine wpAnyH_ready (rs := [12]) (by kernel_rfl) (by simp) (AllReadyH.cons rfl (fun K hK => ?_) AllReadyH.nil)
        rw [if_pos (by rfl)]
        obtain ⟨a', c', he, g1, g2', g3, g4⟩ := HR3.out.form
        injection he with e1 e2 e3
        subst e1; subst e3; clear e2
        refine wp_appB (.tmp 31) (.tmp 42) rfl w1.heap.size _ (X.take m) [z] _ _ rfl HO3.out rfl g1 g4 HLN2.out HB3.out.size ?_
        intro v5 w5 ho5 hg5
        have HB5 := Lib.hid (HB3.out.trans (hg5.below (fun r hr => HO3.out.base r hr) HB3.out.size))
        have cl5 : w5.cell? ⟨b, o + m, none⟩ = some (.int .u8 (x.toNat : Int)) := (HB5.out.cell (p := ⟨b, o + m, none⟩) (Nat.lt_of_lt_of_le hbB HKN.out.below.size)).trans ((HB3.out.cell (p := ⟨b, o + m, none⟩) (Nat.lt_of_lt_of_le hbB HKN.out.below.size)).symm.trans cl3)
        have cx5 := (hg5.cell (p := ⟨bx, ox + r, none⟩) HCX3.out.1 HNE.out).trans cx3
        have hne5 := hg5.ne HNE.out HCX3.out.1
        have HCX5 : Hid (bx < w5.heap.size ∧ ∀ j, j < 64 → w5.cell? ⟨bx, ox + j, none⟩ = some (.int .u8 ((Y.getD j 0).toNat : Int))) := Lib.hid ⟨Nat.lt_of_lt_of_le HCX3.out.1 hg5.size, fun j hj => (hg5.cell (p := ⟨bx, ox + j, none⟩) HCX3.out.1 HNE.out).trans (HCX3.out.2 j hj)⟩
        rw [← HTK.out] at ho5
        obtain ⟨a5, c5, hv5, -, -⟩ := ho5.form
        subst hv5
        have HT5 : Hid ((X.take (m + 1)).length = m + 1) := Lib.hid (by rw [List.length_take, HXL.out]; omega)
        rw [HT5.out] at ho5 hne5 ⊢
        have HO5 := Lib.hid ho5
        have HN5 := Lib.hid hne5
        refine hK.out _ _ ⟨cl5, cx5⟩ (fun hHeld => ?_)
        clear hK K hg5 ho5 hne5 HR3 HO3 HB3 HCX3 cl5 cx5 cl3 cx3 cl1 cx1
        try simp only [Act.put, List.getElem_toArray, List.getElem_cons_zero, List.getElem_cons_succ, List.setIfInBounds_toArray, List.set_cons_zero, List.set_cons_succ]
        refine wpAnyH_take (i := 13) (v := .slice a5 (m + 1) c5) rfl (by kernel_rfl) (by kernel_rfl) (by kernel_rfl) (fun _ _ _ h => h) (Or.inl ⟨by rfl, fun w _ => by go_simp⟩) hHeld ?_
        simp only [Act.put, List.getElem_toArray, List.getElem_cons_zero, List.getElem_cons_succ, List.setIfInBounds_toArray, List.set_cons_zero, List.set_cons_succ]
        refine wpAnyH_done (by kernel_rfl) ?_ _
        go_wp2_with fail
        go_roundw
        case rel =>
          exact ⟨m + 1, by omega, by go_num, a5, c5, rfl, HO5.out, _, _, _, rfl, (fun h => by
            rw [show (m + 1) / 64 = m / 64 by omega, HYY.out]
            exact ⟨bx, ox, rfl, rfl, HCX5.out.1, HCX5.out.2, HN5.out⟩), HB5.out⟩
        case measure => simp [intOf]; omega
    · obtain rfl : m = q := by omega
      have HO2 := HO
      have HFX : Hid (X.take m = cstream k n l) := Lib.hid (by rw [HXX.out, List.take_of_length_le (by rw [HXL.out]; exact Nat.le_refl _)])
      rw [HFX.out] at HO2
      clear hx
      go_wp2_with fail
      go_ret2
      exact ⟨_, rfl, HO2.out.mono HKN.out.below.size, HKr.out.below⟩
end Go.Proofs.YtcibbghggfklbaaDoor
