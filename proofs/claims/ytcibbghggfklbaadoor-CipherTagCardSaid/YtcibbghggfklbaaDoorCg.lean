/-
  Package cipher: bytesOf and tag.
-/
import Derived.Test.YtcibbghggfklbaaDoorCc
import Derived.Test.YtcibbghggfklbaaDoorCf
import Derived.Test.YtcibbghggfklbaaDoorPkC
import Derived.Test.YtcibbghggfklbaaDoorRp
namespace Go.Proofs.YtcibbghggfklbaaDoor
open Go.RowKit
set_option linter.unusedVariables false
set_option linter.unusedSimpArgs false

theorem cbv_byN (n : Int) (k : Nat) : Value.int .u8 (n / 2 ^ (56 - 8 * k) % 256) = bv (byN n k) := by unfold bv; rw [byN_nat]
theorem carr8_size : (Tryd.prog.info? 59).map (·.size) = some 8 := by kernel_rfl
theorem cbe8A_size (n : Int) : (bvA (be8 n)).size = 8 := by rw [bvA_size, be8_len]
theorem cbe8A_sz (n : Int) : (Tryd.prog.info? 59).map (·.size) = some (bvA (be8 n)).size := by rw [cbe8A_size]; exact carr8_size

set_option maxRecDepth 100000 in
set_option maxHeartbeats 2000000 in
theorem cbytesOf_any (n : Int) (w : World) :
    Calls Tryd.prog 33 #[.int .i64 n] w fun e w' => e = .returned (.agg (bvA (be8 n))) ∧ Below w.heap.size w w' := by
  obtain ⟨Z, hZ⟩ : ∃ Z, Z = bvA (List.replicate 8 0) := ⟨_, rfl⟩
  have hz := fun W : World => (by rw [hZ]; kernel_rfl : (zeroValue 59).run Tryd.prog W = .ok (.agg Z) W)
  have hB0 : Below w.heap.size w (w.alloc (.cells Z 59)) := (Below.refl _ _).alloc (Nat.le_refl _) _
  have hO0 : BB (w.alloc (.cells Z 59)) w.heap.size 59 (be8To n 0) := by rw [hZ, be8To_zero]; exact BB.new w _ _
  have HB0 := Lib.hid hB0
  have HO0 := Lib.hid hO0
  clear hZ hB0 hO0
  go_enter Tryd.func33, Tryd.ntmps33
  go_wp2_with fail
  go_loopw [4] (fun i wr => ∃ k : Nat, k ≤ 8 ∧ i = .int .i64 k ∧ BB wr w.heap.size 59 (be8To n k) ∧ Below w.heap.size w wr) (fun i _ => 8 - (intOf i).toNat)
  case atStart => exact ⟨0, by omega, rfl, HO0.out, HB0.out⟩
  case round =>
    clear HB0 HO0
    obtain ⟨k, hk, rfl, ho, hb⟩ := hrel
    have HO := Lib.hid ho
    have HB := Lib.hid hb
    clear ho hb
    by_cases hlt : k < 8
    · have cf := HO.out.frozen k
      have ck := HO.out.cell k (by rw [be8To_len]; omega)
      have HX := Lib.hid (be8To_set n k)
      have HV := Lib.hid (cbv_byN n k)
      generalize hx : (be8To n k)[k]'(by rw [be8To_len]; omega) = xk at ck
      clear hx
      go_wp2_with fail
      go_roundw
      case rel =>
        refine ⟨k + 1, by omega, by go_num, ?_, HB.out.setCell (Nat.le_refl _) _⟩
        rw [← HX.out]
        have h := HO.out.set_ k (byN n k)
        rw [← HV.out] at h
        exact h
      case measure => simp [intOf]; omega
    · obtain rfl : k = 8 := by omega
      rw [be8To_all] at HO
      have hsz := cbe8A_sz n
      go_wp2_with (first | (refine wpList_load_row rfl 59 (.tmp 2) rfl w.heap.size rfl _ (bvA (be8 n)) (0, 0) _ HO.out Tryd.underlying59 rfl hsz ?_) | (refine wpList_storeA rfl 59 (.tmp 2) (.tmp 16) rfl w.heap.size (bvA (be8 n)) rfl rfl _ _ HO.out hsz rfl (bvA_one _) ?_))
      intro w4 h4 hg4
      go_wp2_with fail
      refine bodyPost_ret (v := .agg (bvA (be8 n))) ?_ rfl ⟨rfl, grown_below HB.out hg4 (Nat.le_refl _) HB.out.size⟩
      exact results_cell_row rfl _ _ w.heap.size 59 _ (0, 0) _ rfl h4 Tryd.underlying59 rfl hsz

theorem BB.rdb {w : World} {g : Nat} {T : TypeId} {l : List UInt8} (h : BB w g T l) (hl : l.length ≤ maxLen) : RdB w.heap.size w (some ⟨g, 0, none⟩) l := by
  refine ⟨hl, .inr ⟨g, 0, rfl, h.lt, fun j hj => ?_⟩⟩
  rw [Nat.zero_add]; exact h.cell j hj
theorem BB.rdv {w : World} {g : Nat} {T : TypeId} {l : List UInt8} (h : BB w g T l) (q : Nat) (hq : l.length = q) (hm : q ≤ maxLen) : RdV w (.slice (some ⟨g, 0, none⟩) q q) l :=
  ⟨_, _, by rw [hq], h.rdb (by omega), by omega, hm, fun e => by cases e⟩
/-- Five slices of bytes in a block that has just been made. -/
theorem RdVs.five {w : World} {T : TypeId} {v0 v1 v2 v3 v4 : Value} {l0 l1 l2 l3 l4 : List UInt8} (h0 : RdV w v0 l0) (h1 : RdV w v1 l1) (h2 : RdV w v2 l2) (h3 : RdV w v3 l3) (h4 : RdV w v4 l4) :
    RdVs (w.alloc (.cells #[v0, v1, v2, v3, v4] T)) w.heap.size [l0, l1, l2, l3, l4] := by
  have hb : Below w.heap.size w (w.alloc (.cells #[v0, v1, v2, v3, v4] T)) := (Below.refl _ _).alloc (Nat.le_refl _) _
  intro j hj
  have hc := fun i => cell_of_row _ _ i _ _ _ (heap_alloc_new w (.cells #[v0, v1, v2, v3, v4] T))
  match j, hj with
  | 0, _ => exact ⟨v0, hc 0, h0.call hb⟩
  | 1, _ => exact ⟨v1, hc 1, h1.call hb⟩
  | 2, _ => exact ⟨v2, hc 2, h2.call hb⟩
  | 3, _ => exact ⟨v3, hc 3, h3.call hb⟩
  | 4, _ => exact ⟨v4, hc 4, h4.call hb⟩

/-- What the region of tag knows, by what has come up. -/
structure TgJ (w : World) (ps : List (List UInt8)) (F D : List UInt8) (L : Nat → Bool) (q19 q20 q21 q10 : Value) (W : World) : Prop where
  below : Below w.heap.size w W
  h5 : L 9 = false → L 5 = true → ∃ g, q19 = .slice (some ⟨g, 0, none⟩) 5 5 ∧ g < W.heap.size ∧ RdVs W g ps
  h6 : L 9 = false → L 6 = true → RdV W q20 F
  h7 : L 9 = false → L 7 = true → q21 = .agg (bvA D)
  h8 : L 8 = true → ∃ g, q10 = .pointer (some ⟨g, 0, none⟩) ∧ w.heap.size ≤ g ∧ g < W.heap.size ∧ BB W g 41 (if L 9 then D else List.replicate 32 0)
  late : L 9 = true → L 5 = true ∧ L 6 = true ∧ L 7 = true ∧ L 8 = true
theorem TgJ.early {w : World} {ps : List (List UInt8)} {F D : List UInt8} {L : Nat → Bool} {q19 q20 q21 q10 : Value} {W : World} (h : TgJ w ps F D L q19 q20 q21 q10 W) {i : Nat} (hi : i = 5 ∨ i = 6 ∨ i = 7 ∨ i = 8) (hL : L i = false) : L 9 = false := by
  cases h9 : L 9
  · rfl
  · obtain ⟨h1, h2, h3, h4⟩ := h.late h9
    rcases hi with rfl | rfl | rfl | rfl
    · rw [h1] at hL; cases hL
    · rw [h2] at hL; cases hL
    · rw [h3] at hL; cases hL
    · rw [h4] at hL; cases hL
theorem TgJ.call {w : World} {ps : List (List UInt8)} {F D : List UInt8} {L : Nat → Bool} {q19 q20 q21 q10 : Value} {W W' : World} (h : TgJ w ps F D L q19 q20 q21 q10 W) (hb : Below W.heap.size W W') : TgJ w ps F D L q19 q20 q21 q10 W' :=
  ⟨h.below.trans (hb.mono h.below.size), fun e9 e => by obtain ⟨g, h1, h2, h3⟩ := h.h5 e9 e; exact ⟨g, h1, Nat.lt_of_lt_of_le h2 hb.size, h3.call h2 hb⟩, fun e9 e => (h.h6 e9 e).call hb, h.h7,
    fun e => by obtain ⟨g, h1, h2, h3, h4⟩ := h.h8 e; exact ⟨g, h1, h2, Nat.lt_of_lt_of_le h3 hb.size, h4.below hb h3⟩, h.late⟩
theorem TgJ.set5 {w : World} {ps : List (List UInt8)} {F D : List UInt8} {L : Nat → Bool} {q19 q20 q21 q10 : Value} {W : World} (h : TgJ w ps F D L q19 q20 q21 q10 W) {g : Nat} (hg : g < W.heap.size) (hr : RdVs W g ps) : TgJ w ps F D (fun j => (j == 5) || L j) (.slice (some ⟨g, 0, none⟩) 5 5) q20 q21 q10 W :=
  ⟨h.below, fun _ _ => ⟨g, rfl, hg, hr⟩, fun e9 e => h.h6 (by simpa using e9) (by simpa using e), fun e9 e => h.h7 (by simpa using e9) (by simpa using e), fun e => by have := h.h8 (by simpa using e); simpa using this, fun e => by have := h.late (by simpa using e); simp [this]⟩
theorem TgJ.set6 {w : World} {ps : List (List UInt8)} {F D : List UInt8} {L : Nat → Bool} {q19 q20 q21 q10 : Value} {W : World} (h : TgJ w ps F D L q19 q20 q21 q10 W) {v : Value} (hr : RdV W v F) : TgJ w ps F D (fun j => (j == 6) || L j) q19 v q21 q10 W :=
  ⟨h.below, fun e9 e => h.h5 (by simpa using e9) (by simpa using e), fun _ _ => hr, fun e9 e => h.h7 (by simpa using e9) (by simpa using e), fun e => by have := h.h8 (by simpa using e); simpa using this, fun e => by have := h.late (by simpa using e); simp [this]⟩
theorem TgJ.set7 {w : World} {ps : List (List UInt8)} {F D : List UInt8} {L : Nat → Bool} {q19 q20 q21 q10 : Value} {W : World} (h : TgJ w ps F D L q19 q20 q21 q10 W) : TgJ w ps F D (fun j => (j == 7) || L j) q19 q20 (.agg (bvA D)) q10 W :=
  ⟨h.below, fun e9 e => h.h5 (by simpa using e9) (by simpa using e), fun e9 e => h.h6 (by simpa using e9) (by simpa using e), fun _ _ => rfl, fun e => by have := h.h8 (by simpa using e); simpa using this, fun e => by have := h.late (by simpa using e); simp [this]⟩
theorem TgJ.set8 {w : World} {ps : List (List UInt8)} {F D : List UInt8} {L : Nat → Bool} {q19 q20 q21 q10 : Value} {W : World} (h : TgJ w ps F D L q19 q20 q21 q10 W) (h9 : L 9 = false) {g : Nat} (h1 : w.heap.size ≤ g) (h2 : BB W g 41 (List.replicate 32 0)) : TgJ w ps F D (fun j => (j == 8) || L j) q19 q20 q21 (.pointer (some ⟨g, 0, none⟩)) W :=
  ⟨h.below, fun e9 e => h.h5 (by simpa using e9) (by simpa using e), fun e9 e => h.h6 (by simpa using e9) (by simpa using e), fun e9 e => h.h7 (by simpa using e9) (by simpa using e), fun _ => ⟨g, rfl, h1, h2.lt, by simpa [h9] using h2⟩, fun e => by have := h.late (by simpa using e); simp [this]⟩
theorem TgJ.put9 {w : World} {ps : List (List UInt8)} {F D : List UInt8} {L : Nat → Bool} {q19 q20 q21 : Value} {W W' : World} {g : Nat} (h : TgJ w ps F D L q19 q20 q21 (.pointer (some ⟨g, 0, none⟩)) W) (h1 : w.heap.size ≤ g) (h2 : BB W' g 41 D) (hg : W.grownBy W' (some g)) (d5 : L 5 = true) (d6 : L 6 = true) (d7 : L 7 = true) (d8 : L 8 = true) : TgJ w ps F D (fun j => (j == 9) || L j) q19 q20 q21 (.pointer (some ⟨g, 0, none⟩)) W' :=
  ⟨grown_below h.below hg h1 h.below.size, fun e9 => by simp at e9, fun e9 => by simp at e9, fun e9 => by simp at e9, fun _ => ⟨g, rfl, h1, h2.lt, by simpa using h2⟩, fun _ => by simp [d5, d6, d7, d8]⟩

set_option maxRecDepth 100000 in
set_option maxHeartbeats 2000000 in
theorem tag_any (k n hd x : List UInt8) (hk : k.length = 32) (hn : n.length = 12) (a : Option Addr) (cap : Nat) (v : Value) (w : World) (hT : Tab w) (hh : RdV w (.slice a hd.length cap) hd) (hx : RdV w v x) (hl : hd.length ≤ 70368744100000) (hlx : x.length ≤ 66000) :
    Calls Tryd.prog 25 #[.agg (bvA k), .agg (bvA n), .slice a hd.length cap, v] w fun e w' => ∃ v', e = .returned v' ∧ RdV w' v' (tagC k n hd x) ∧ Below w.heap.size w w' := by
  obtain ⟨ax, cx, rfl, hx1, hx2, hx3, hx4⟩ := hx
  have HX := Lib.hid (show RdV w (.slice ax x.length cx) x from ⟨ax, cx, rfl, hx1, hx2, hx3, hx4⟩)
  have HH := Lib.hid hh
  have HT := Lib.hid hT
  have HSK := Lib.hid (key_size k hk)
  have HSN := Lib.hid (nonce_size n hn)
  have HKN := Lib.hid (KN.start w k n)
  have HFL : Hid ([k, n, be8 (hd.length : Nat), hd, x].flatten = k ++ n ++ be8 (hd.length : Nat) ++ hd ++ x) := Lib.hid (by simp [List.append_assoc])
  have HLN : Hid (0 < [k, n, be8 (hd.length : Nat), hd, x].flatten.length ∧ [k, n, be8 (hd.length : Nat), hd, x].flatten.length ≤ 70368744177000) := Lib.hid (by
    rw [HFL.out]; simp only [List.length_append, be8_len, hk, hn]; omega)
  have HB8 := Lib.hid (cbytesOf_any (hd.length : Nat))
  have HZ8 := Lib.hid (cbe8A_sz (hd.length : Nat))
  have HZL := Lib.hid (be8_len (hd.length : Nat))
  have HKL := Lib.hid hk
  have HNL := Lib.hid hn
  have HTC : Hid (tagC k n hd x = (tagS [116, 97, 103] (k ++ n ++ be8 (hd.length : Nat) ++ hd ++ x)).take 16) := Lib.hid rfl
  have HO8 : Hid ((bvA (List.replicate 8 0)).size = (bvA (be8 (hd.length : Nat))).size) := Lib.hid (by rw [bvA_size, bvA_size, be8_len, List.length_replicate])
  obtain ⟨q, hq⟩ : ∃ q, hd.length = q := ⟨_, rfl⟩
  rw [hq] at HH HFL HLN HB8 HZ8 HZL HTC HO8 ⊢
  obtain ⟨y, hy⟩ : ∃ y, be8 ((q : Nat) : Int) = y := ⟨_, rfl⟩
  rw [hy] at HB8 HFL HLN HZ8 HZL HTC HO8
  obtain ⟨z, hz⟩ : ∃ z, x.length = z := ⟨_, rfl⟩
  rw [hz] at HX ⊢
  clear hq hy hz hx1 hx2 hx3 hx4 hh hT hk hn
  go_enter Tryd.func25, Tryd.ntmps25
  go_wp2_with (first
    | (go_at_call 33; with_reducible refine (HB8.out _).mono ?_; rintro e w2 ⟨rfl, hb2⟩)
    | (refine wpList_storeA rfl 59 (.tmp 9) (.tmp 13) rfl w2.heap.size (bvA y) rfl rfl 59 _ (heap_alloc_new w2 _) HZ8.out HO8.out (bvA_one _) ?_))
  intro w3 h3 hg3
  have HB3 : Hid (Below w2.heap.size w2 w3) := Lib.hid (grown_below ((Below.refl _ _).alloc (Nat.le_refl _) _) hg3 (Nat.le_refl _) (by rw [alloc_size]; omega))
  have HY : Hid (BB w3.drew w2.heap.size 59 y) := Lib.hid (show BB w3 w2.heap.size 59 y from h3)
  have HK3 := Lib.hid (((HKN.out.call hb2).call HB3.out).drew)
  have HH3 := Lib.hid (HH.out.call HK3.out.below)
  have HX3 := Lib.hid (HX.out.call HK3.out.below)
  have HT3 := Lib.hid (HT.out.below HK3.out.below HT.out.lt)
  clear h3 hg3 hb2 HB3 HKN HH HX
  have HCC : Hid (∀ W g, g < W.heap.size → RdVs W g [k, n, y, hd, x] → Calls Tryd.prog 34 #[.slice (some ⟨g, 0, none⟩) 5 5] W fun e w' => ∃ v, e = .returned v ∧ OwnB W.heap.size w' v [k, n, y, hd, x].flatten ∧ Below W.heap.size W w') := Lib.hid (fun W g h1 h2 => concat_any g [k, n, y, hd, x] 5 W h1 h2 (by simp) HLN.out.1 (by have := HLN.out.2; omega))
  rw [HFL.out] at HCC HLN
  obtain ⟨F, hF⟩ : ∃ F, k ++ n ++ y ++ hd ++ x = F := ⟨_, rfl⟩
  rw [hF] at HCC HLN HTC
  obtain ⟨D, hD⟩ : ∃ D, tagS [116, 97, 103] F = D := ⟨_, rfl⟩
  have HTG : Hid (∀ W v, Tab W → RdV W v F → Calls Tryd.prog 20 #[.string ⟨#[116, 97, 103]⟩, v] W fun e w' => e = .returned (.agg (bvA D)) ∧ Below W.heap.size W w') := by
    show ∀ W v, _ → _ → _
    intro W v hTW hv
    obtain ⟨a1, c1, rfl, r1, r2, r3, _⟩ := hv
    rw [← hD]
    exact Tagged_any ⟨#[116, 97, 103]⟩ a1 c1 F W hTW r1 r2 r3 (by decide) (by have := HLN.out.2; omega)
  have HDL : Hid (D.length = 32) := Lib.hid (by rw [← hD, tagS_len])
  rw [hD] at HTC
  clear hF hD HB8 HFL
  have HSD : Hid ((Tryd.prog.info? 41).map (·.size) = some (bvA D).size) := Lib.hid (by rw [bvA_size, HDL.out]; kernel_rfl)
  have HOD : Hid ((bvA (List.replicate 32 0)).size = (bvA D).size) := Lib.hid (by rw [bvA_size, bvA_size, HDL.out, List.length_replicate])
  go_wp2_with fail
  rename_i K0 hK0
  refine region_writes [14, 15, 16, 17, 18, 19, 20, 21, 10] (fun f W => ∃ g, f 10 = .pointer (some ⟨g, 0, none⟩) ∧ BB W g 41 D ∧ Below w.heap.size w W) ?_ ?_
  rotate_left
  · clear hK0 K0
    refine wp_region_held_drew (S := fun _ => True) (by kernel_rfl) trivial (fun hHeld => ?_)
    refine wpAnyH_take (i := 0) (v := .slice (some ⟨w.heap.size, 0, none⟩) 32 32) rfl (by kernel_rfl) (by kernel_rfl) (by kernel_rfl) (fun _ _ _ h => nomatch h.1) (Or.inl ⟨by rfl, fun w _ => by go_simp⟩) hHeld ?_
    simp only [Act.put, List.getElem_toArray, List.getElem_cons_zero, List.getElem_cons_succ, List.setIfInBounds_toArray, List.set_cons_zero, List.set_cons_succ]
    refine wpAnyH_take (i := 1) (v := .slice (some ⟨w.heap.size + 1, 0, none⟩) 12 12) rfl (by kernel_rfl) (by kernel_rfl) (by kernel_rfl) (fun _ _ _ h => nomatch h.1) (Or.inl ⟨by rfl, fun w _ => by go_simp⟩) hHeld ?_
    simp only [Act.put, List.getElem_toArray, List.getElem_cons_zero, List.getElem_cons_succ, List.setIfInBounds_toArray, List.set_cons_zero, List.set_cons_succ]
    refine wpAnyH_take (i := 2) (v := .slice (some ⟨w2.heap.size, 0, none⟩) 8 8) rfl (by kernel_rfl) (by kernel_rfl) (by kernel_rfl) (fun _ _ _ h => nomatch h.1) (Or.inl ⟨by rfl, fun w _ => by go_simp⟩) hHeld ?_
    simp only [Act.put, List.getElem_toArray, List.getElem_cons_zero, List.getElem_cons_succ, List.setIfInBounds_toArray, List.set_cons_zero, List.set_cons_succ]
    refine wpAnyH_take (i := 3) (v := .slice a q cap) rfl (by kernel_rfl) (by kernel_rfl) (by kernel_rfl) (fun _ _ _ h => nomatch h.1) (Or.inl ⟨by rfl, fun w _ => by go_simp⟩) hHeld ?_
    simp only [Act.put, List.getElem_toArray, List.getElem_cons_zero, List.getElem_cons_succ, List.setIfInBounds_toArray, List.set_cons_zero, List.set_cons_succ]
    refine wpAnyH_take (i := 4) (v := .slice ax z cx) rfl (by kernel_rfl) (by kernel_rfl) (by kernel_rfl) (fun _ _ _ h => nomatch h.1) (Or.inl ⟨by rfl, fun w _ => by go_simp⟩) hHeld ?_
    simp only [Act.put, List.getElem_toArray, List.getElem_cons_zero, List.getElem_cons_succ, List.setIfInBounds_toArray, List.set_cons_zero, List.set_cons_succ]
    generalize w3.drew = w4 at *
    have HL9 : Hid (w.heap.size ≤ w4.heap.size) := Lib.hid HK3.out.below.size
    refine wpAnyH_writes [19, 20, 21, 10] (fun L f W => TgJ w4 [k, n, y, hd, x] F D L (f 19) (f 20) (f 21) (f 10) W) [5, 6, 7, 8, 9] (by kernel_rfl) (by kernel_rfl) ?_ trivial ?_ ?_
    · exact ⟨Below.refl _ _, (fun _ e => absurd e (by decide)), (fun _ e => absurd e (by decide)), (fun _ e => absurd e (by decide)), (fun e => absurd e (by decide)), (fun e => absurd e (by decide))⟩
    · intro L f W hJ _ hall
      obtain ⟨g, h1, h2, h3, h4⟩ := hJ.h8 (hall 8 (by simp))
      rw [hall 9 (by simp)] at h4
      exact ⟨rfl, writes_ex (by kernel_rfl) ⟨g, h1, h4, HK3.out.below.trans (hJ.below.mono HL9.out)⟩⟩
    refine StepsI.cons [] rfl (by kernel_rfl) ?_ ?_
    · rintro L a' W ⟨f, rfl, hJ⟩ _ hL hd K hK
      simp only [writes, List.foldl_cons, List.foldl_nil, Act.put, List.setIfInBounds_toArray, List.set_cons_zero, List.set_cons_succ]
      go_simp
      have hb : Below W.heap.size W (W.alloc (.cells #[.slice (some ⟨w.heap.size, 0, none⟩) 32 32, .slice (some ⟨w.heap.size + 1, 0, none⟩) 12 12, .slice (some ⟨w2.heap.size, 0, none⟩) 8 8, .slice a q cap, .slice ax z cx] 28)) := (Below.refl _ _).alloc (Nat.le_refl _) _
      have hr := RdVs.five (T := 28) ((HK3.out.key.rdv 32 HKL.out (by unfold maxLen; omega)).call hJ.below) ((HK3.out.nonce.rdv 12 HNL.out (by unfold maxLen; omega)).call hJ.below) ((HY.out.rdv 8 HZL.out (by unfold maxLen; omega)).call hJ.below) (HH3.out.call hJ.below) (HX3.out.call hJ.below)
      refine hK.out _ _ trivial ?_
      exact writes_ex (by kernel_rfl) ((hJ.call hb).set5 (by rw [alloc_size]; omega) hr)
    refine StepsI.cons [5] rfl (by kernel_rfl) ?_ ?_
    · rintro L a' W ⟨f, rfl, hJ⟩ _ hL hd K hK
      obtain ⟨g, e5, hg, hr⟩ := hJ.h5 (hJ.early (by simp) hL) (hd 5 (by simp))
      simp only [writes, List.foldl_cons, List.foldl_nil, Act.put, List.setIfInBounds_toArray, List.set_cons_zero, List.set_cons_succ]
      rw [e5]
      go_simp
      refine (HCC.out W g hg hr).mono ?_
      rintro e W1 ⟨v, rfl, ho, hb⟩
      have hJ2 := (hJ.call hb).set6 ho.rdv
      rw [e5] at hJ2
      try go_wp2_with fail
      refine hK.out _ _ trivial ?_
      exact writes_ex (by kernel_rfl) hJ2
    refine StepsI.cons [6] rfl (by kernel_rfl) ?_ ?_
    · rintro L a' W ⟨f, rfl, hJ⟩ _ hL hd K hK
      have hv := hJ.h6 (hJ.early (by simp) hL) (hd 6 (by simp))
      have HTW := HT3.out.below hJ.below HT3.out.lt
      simp only [writes, List.foldl_cons, List.foldl_nil, Act.put, List.setIfInBounds_toArray, List.set_cons_zero, List.set_cons_succ]
      go_simp
      refine (HTG.out W (f 20) HTW hv).mono ?_
      rintro e W1 ⟨rfl, hb⟩
      have hJ2 := (hJ.call hb).set7
      try go_wp2_with fail
      refine hK.out _ _ trivial ?_
      exact writes_ex (by kernel_rfl) hJ2
    refine StepsI.cons [] rfl (by kernel_rfl) ?_ ?_
    · rintro L a' W ⟨f, rfl, hJ⟩ _ hL hd K hK
      rw [if_pos (by rfl)]
      refine wp_allocA rfl ?_
      intro W1 g hn hge hb
      have hJ2 := (hJ.call hb).set8 (hJ.early (by simp) hL) (Nat.le_trans hJ.below.size hge) hn
      refine hK.out _ _ trivial ?_
      exact writes_ex (by kernel_rfl) hJ2
    refine StepsI.cons [5, 6, 7, 8] rfl (by kernel_rfl) ?_ StepsI.nil
    · rintro L a' W ⟨f, rfl, hJ⟩ _ hL hd K hK
      obtain ⟨g, e8, hg1, hg2, hBB⟩ := hJ.h8 (hd 8 (by simp))
      have e7 := hJ.h7 hL (hd 7 (by simp))
      rw [hL] at hBB
      rw [if_pos (by rfl)]
      refine wp_storeA 41 (.tmp 10) (.tmp 21) rfl g (bvA D) e8 e7 41 _ hBB HSD.out HOD.out (bvA_one _) ?_
      intro W1 hn hg
      have hJ2 := (e8 ▸ hJ).put9 hg1 hn hg (hd 5 (by simp)) (hd 6 (by simp)) (hd 7 (by simp)) (hd 8 (by simp))
      rw [← e8] at hJ2
      refine hK.out _ _ trivial ?_
      exact writes_ex (by kernel_rfl) hJ2
  rintro f W ⟨g, e10, hBB, hb⟩
  have HBB := Lib.hid hBB
  have HBW := Lib.hid hb
  clear hBB hb
  refine hK0 _ _ ?_
  simp only [writes, List.foldl_cons, List.foldl_nil, Act.put, List.setIfInBounds_toArray, List.set_cons_zero, List.set_cons_succ]
  rw [e10]
  go_wp2_with fail
  go_ret
  refine ⟨_, rfl, ⟨some ⟨g, 0, none⟩, 32, ?_, ?_, ?_, by unfold maxLen; omega, fun h => by cases h⟩, HBW.out⟩
  · rw [HTC.out, List.length_take, HDL.out]; rfl
  · rw [HTC.out]
    exact (HBB.out.rdb (by rw [HDL.out]; unfold maxLen; omega)).take 16
  · rw [HTC.out, List.length_take, HDL.out]; decide
end Go.Proofs.YtcibbghggfklbaaDoor
