/-
  Package cipher: bytesOf and tag.
  bytes.Equal; package cipher: Seal.
  Package cipher: Open.
  Package cipher: what its functions answer, for all arguments.
-/
import Derived.Test.YtpnemdhbdncknaaDoorPkI
import Derived.Test.YtpnemdhbdncknaaDoorPkC
import Derived.Test.YtpnemdhbdncknaaDoorPkE
set_option linter.unusedVariables false
set_option linter.unusedSimpArgs false
namespace Go.Proofs.YtpnemdhbdncknaaDoor
open Go.RowKit
set_option linter.unusedVariables false
set_option linter.unusedSimpArgs false

theorem cbv_byN (n : Int) (k : Nat) : Value.int .u8 (n / 2 ^ (56 - 8 * k) % 256) = bv (byN n k) := by unfold bv; rw [byN_nat]
theorem carr8_size : (Tryd.prog.info? 97).map (·.size) = some 8 := by kernel_rfl
theorem cbe8A_size (n : Int) : (bvA (be8 n)).size = 8 := by rw [bvA_size, be8_len]
theorem cbe8A_sz (n : Int) : (Tryd.prog.info? 97).map (·.size) = some (bvA (be8 n)).size := by rw [cbe8A_size]; exact carr8_size

set_option maxRecDepth 100000 in
set_option maxHeartbeats 2000000 in
theorem cbytesOf_any (n : Int) (w : World) :
    Calls Tryd.prog 51 #[.int .i64 n] w fun e w' => e = .returned (.agg (bvA (be8 n))) ∧ Below w.heap.size w w' := by
  obtain ⟨Z, hZ⟩ : ∃ Z, Z = bvA (List.replicate 8 0) := ⟨_, rfl⟩
  have hz := fun W : World => (by rw [hZ]; kernel_rfl : (zeroValue 97).run Tryd.prog W = .ok (.agg Z) W)
  have hB0 : Below w.heap.size w (w.alloc (.cells Z 97)) := (Below.refl _ _).alloc (Nat.le_refl _) _
  have hO0 : BB (w.alloc (.cells Z 97)) w.heap.size 97 (be8To n 0) := by rw [hZ, be8To_zero]; exact BB.new w _ _
  have HB0 := Lib.hid hB0
  have HO0 := Lib.hid hO0
  clear hZ hB0 hO0
  go_enter Tryd.func51, Tryd.ntmps51
  go_wp2_with fail
  go_loopw [4] (fun i wr => ∃ k : Nat, k ≤ 8 ∧ i = .int .i64 k ∧ BB wr w.heap.size 97 (be8To n k) ∧ Below w.heap.size w wr) (fun i _ => 8 - (intOf i).toNat)
  case atStart => exact ⟨0, by omega, rfl, HO0.out, HB0.out⟩
  case round =>
    clear HB0 HO0
    obtain ⟨k, hk, rfl, ho, hb⟩ := hrel
    have HO := Lib.hid ho
    have HB := Lib.hid hb
    clear ho hb
    by_cases hlt : k < 8
    · have cf := HO.out.frozen k
      have ck := HO.out.cell k (by rw [be8To_len]; omega)
      have HX := Lib.hid (be8To_set n k)
      have HV := Lib.hid (cbv_byN n k)
      generalize hx : (be8To n k)[k]'(by rw [be8To_len]; omega) = xk at ck
      clear hx
      go_wp2_with fail
      go_roundw
      case rel =>
        refine ⟨k + 1, by omega, by go_num, ?_, HB.out.setCell (Nat.le_refl _) _⟩
        rw [← HX.out]
        have h := HO.out.set_ k (byN n k)
        rw [← HV.out] at h
        exact h
      case measure => simp [intOf]; omega
    · obtain rfl : k = 8 := by omega
      rw [be8To_all] at HO
      have hsz := cbe8A_sz n
      go_wp2_with (first | (refine wpList_load_row rfl 97 (.tmp 2) rfl w.heap.size rfl _ (bvA (be8 n)) (0, 0) _ HO.out Tryd.underlying97 rfl hsz ?_) | (refine wpList_storeA rfl 97 (.tmp 2) (.tmp 16) rfl w.heap.size (bvA (be8 n)) rfl rfl _ _ HO.out hsz rfl (bvA_one _) ?_))
      intro w4 h4 hg4
      go_wp2_with fail
      refine bodyPost_ret (v := .agg (bvA (be8 n))) ?_ rfl ⟨rfl, grown_below HB.out hg4 (Nat.le_refl _) HB.out.size⟩
      exact results_cell_row rfl _ _ w.heap.size 97 _ (0, 0) _ rfl h4 Tryd.underlying97 rfl hsz

theorem BB.rdb {w : World} {g : Nat} {T : TypeId} {l : List UInt8} (h : BB w g T l) (hl : l.length ≤ maxLen) : RdB w.heap.size w (some ⟨g, 0, none⟩) l := by
  refine ⟨hl, .inr ⟨g, 0, rfl, h.lt, fun j hj => ?_⟩⟩
  rw [Nat.zero_add]; exact h.cell j hj
theorem BB.rdv {w : World} {g : Nat} {T : TypeId} {l : List UInt8} (h : BB w g T l) (q : Nat) (hq : l.length = q) (hm : q ≤ maxLen) : RdV w (.slice (some ⟨g, 0, none⟩) q q) l :=
  ⟨_, _, by rw [hq], h.rdb (by omega), by omega, hm, fun e => by cases e⟩
/-- Five slices of bytes in a block that has just been made. -/
theorem RdVs.five {w : World} {T : TypeId} {v0 v1 v2 v3 v4 : Value} {l0 l1 l2 l3 l4 : List UInt8} (h0 : RdV w v0 l0) (h1 : RdV w v1 l1) (h2 : RdV w v2 l2) (h3 : RdV w v3 l3) (h4 : RdV w v4 l4) :
    RdVs (w.alloc (.cells #[v0, v1, v2, v3, v4] T)) w.heap.size [l0, l1, l2, l3, l4] := by
  have hb : Below w.heap.size w (w.alloc (.cells #[v0, v1, v2, v3, v4] T)) := (Below.refl _ _).alloc (Nat.le_refl _) _
  intro j hj
  have hc := fun i => cell_of_row _ _ i _ _ _ (heap_alloc_new w (.cells #[v0, v1, v2, v3, v4] T))
  match j, hj with
  | 0, _ => exact ⟨v0, hc 0, h0.call hb⟩
  | 1, _ => exact ⟨v1, hc 1, h1.call hb⟩
  | 2, _ => exact ⟨v2, hc 2, h2.call hb⟩
  | 3, _ => exact ⟨v3, hc 3, h3.call hb⟩
  | 4, _ => exact ⟨v4, hc 4, h4.call hb⟩

/-- What the region of tag knows, by what has come up. -/
structure TgJ (w : World) (ps : List (List UInt8)) (F D : List UInt8) (L : Nat → Bool) (q19 q20 q21 q10 : Value) (W : World) : Prop where
  below : Below w.heap.size w W
  h5 : L 9 = false → L 5 = true → ∃ g, q19 = .slice (some ⟨g, 0, none⟩) 5 5 ∧ g < W.heap.size ∧ RdVs W g ps
  h6 : L 9 = false → L 6 = true → RdV W q20 F
  h7 : L 9 = false → L 7 = true → q21 = .agg (bvA D)
  h8 : L 8 = true → ∃ g, q10 = .pointer (some ⟨g, 0, none⟩) ∧ w.heap.size ≤ g ∧ g < W.heap.size ∧ BB W g 46 (if L 9 then D else List.replicate 32 0)
  late : L 9 = true → L 5 = true ∧ L 6 = true ∧ L 7 = true ∧ L 8 = true
theorem TgJ.early {w : World} {ps : List (List UInt8)} {F D : List UInt8} {L : Nat → Bool} {q19 q20 q21 q10 : Value} {W : World} (h : TgJ w ps F D L q19 q20 q21 q10 W) {i : Nat} (hi : i = 5 ∨ i = 6 ∨ i = 7 ∨ i = 8) (hL : L i = false) : L 9 = false := by
  cases h9 : L 9
  · rfl
  · obtain ⟨h1, h2, h3, h4⟩ := h.late h9
    rcases hi with rfl | rfl | rfl | rfl
    · rw [h1] at hL; cases hL
    · rw [h2] at hL; cases hL
    · rw [h3] at hL; cases hL
    · rw [h4] at hL; cases hL
theorem TgJ.call {w : World} {ps : List (List UInt8)} {F D : List UInt8} {L : Nat → Bool} {q19 q20 q21 q10 : Value} {W W' : World} (h : TgJ w ps F D L q19 q20 q21 q10 W) (hb : Below W.heap.size W W') : TgJ w ps F D L q19 q20 q21 q10 W' :=
  ⟨h.below.trans (hb.mono h.below.size), fun e9 e => by obtain ⟨g, h1, h2, h3⟩ := h.h5 e9 e; exact ⟨g, h1, Nat.lt_of_lt_of_le h2 hb.size, h3.call h2 hb⟩, fun e9 e => (h.h6 e9 e).call hb, h.h7,
    fun e => by obtain ⟨g, h1, h2, h3, h4⟩ := h.h8 e; exact ⟨g, h1, h2, Nat.lt_of_lt_of_le h3 hb.size, h4.below hb h3⟩, h.late⟩
theorem TgJ.set5 {w : World} {ps : List (List UInt8)} {F D : List UInt8} {L : Nat → Bool} {q19 q20 q21 q10 : Value} {W : World} (h : TgJ w ps F D L q19 q20 q21 q10 W) {g : Nat} (hg : g < W.heap.size) (hr : RdVs W g ps) : TgJ w ps F D (fun j => (j == 5) || L j) (.slice (some ⟨g, 0, none⟩) 5 5) q20 q21 q10 W :=
  ⟨h.below, fun _ _ => ⟨g, rfl, hg, hr⟩, fun e9 e => h.h6 (by simpa using e9) (by simpa using e), fun e9 e => h.h7 (by simpa using e9) (by simpa using e), fun e => by have := h.h8 (by simpa using e); simpa using this, fun e => by have := h.late (by simpa using e); simp [this]⟩
theorem TgJ.set6 {w : World} {ps : List (List UInt8)} {F D : List UInt8} {L : Nat → Bool} {q19 q20 q21 q10 : Value} {W : World} (h : TgJ w ps F D L q19 q20 q21 q10 W) {v : Value} (hr : RdV W v F) : TgJ w ps F D (fun j => (j == 6) || L j) q19 v q21 q10 W :=
  ⟨h.below, fun e9 e => h.h5 (by simpa using e9) (by simpa using e), fun _ _ => hr, fun e9 e => h.h7 (by simpa using e9) (by simpa using e), fun e => by have := h.h8 (by simpa using e); simpa using this, fun e => by have := h.late (by simpa using e); simp [this]⟩
theorem TgJ.set7 {w : World} {ps : List (List UInt8)} {F D : List UInt8} {L : Nat → Bool} {q19 q20 q21 q10 : Value} {W : World} (h : TgJ w ps F D L q19 q20 q21 q10 W) : TgJ w ps F D (fun j => (j == 7) || L j) q19 q20 (.agg (bvA D)) q10 W :=
  ⟨h.below, fun e9 e => h.h5 (by simpa using e9) (by simpa using e), fun e9 e => h.h6 (by simpa using e9) (by simpa using e), fun _ _ => rfl, fun e => by have := h.h8 (by simpa using e); simpa using this, fun e => by have := h.late (by simpa using e); simp [this]⟩
theorem TgJ.set8 {w : World} {ps : List (List UInt8)} {F D : List UInt8} {L : Nat → Bool} {q19 q20 q21 q10 : Value} {W : World} (h : TgJ w ps F D L q19 q20 q21 q10 W) (h9 : L 9 = false) {g : Nat} (h1 : w.heap.size ≤ g) (h2 : BB W g 46 (List.replicate 32 0)) : TgJ w ps F D (fun j => (j == 8) || L j) q19 q20 q21 (.pointer (some ⟨g, 0, none⟩)) W :=
  ⟨h.below, fun e9 e => h.h5 (by simpa using e9) (by simpa using e), fun e9 e => h.h6 (by simpa using e9) (by simpa using e), fun e9 e => h.h7 (by simpa using e9) (by simpa using e), fun _ => ⟨g, rfl, h1, h2.lt, by simpa [h9] using h2⟩, fun e => by have := h.late (by simpa using e); simp [this]⟩
theorem TgJ.put9 {w : World} {ps : List (List UInt8)} {F D : List UInt8} {L : Nat → Bool} {q19 q20 q21 : Value} {W W' : World} {g : Nat} (h : TgJ w ps F D L q19 q20 q21 (.pointer (some ⟨g, 0, none⟩)) W) (h1 : w.heap.size ≤ g) (h2 : BB W' g 46 D) (hg : W.grownBy W' (some g)) (d5 : L 5 = true) (d6 : L 6 = true) (d7 : L 7 = true) (d8 : L 8 = true) : TgJ w ps F D (fun j => (j == 9) || L j) q19 q20 q21 (.pointer (some ⟨g, 0, none⟩)) W' :=
  ⟨grown_below h.below hg h1 h.below.size, fun e9 => by simp at e9, fun e9 => by simp at e9, fun e9 => by simp at e9, fun _ => ⟨g, rfl, h1, h2.lt, by simpa using h2⟩, fun _ => by simp [d5, d6, d7, d8]⟩

set_option maxRecDepth 100000 in
set_option maxHeartbeats 2000000 in
theorem tag_any (k n hd x : List UInt8) (hk : k.length = 32) (hn : n.length = 12) (a : Option Addr) (cap : Nat) (v : Value) (w : World) (hT : Tab w) (hh : RdV w (.slice a hd.length cap) hd) (hx : RdV w v x) (hl : hd.length ≤ 70368744100000) (hlx : x.length ≤ 66000) :
    Calls Tryd.prog 37 #[.agg (bvA k), .agg (bvA n), .slice a hd.length cap, v] w fun e w' => ∃ v', e = .returned v' ∧ RdV w' v' (tagC k n hd x) ∧ Below w.heap.size w w' := by
  obtain ⟨ax, cx, rfl, hx1, hx2, hx3, hx4⟩ := hx
  have HX := Lib.hid (show RdV w (.slice ax x.length cx) x from ⟨ax, cx, rfl, hx1, hx2, hx3, hx4⟩)
  have HH := Lib.hid hh
  have HT := Lib.hid hT
  have HSK := Lib.hid (key_size k hk)
  have HSN := Lib.hid (nonce_size n hn)
  have HKN := Lib.hid (KN.start w k n)
  have HFL : Hid ([k, n, be8 (hd.length : Nat), hd, x].flatten = k ++ n ++ be8 (hd.length : Nat) ++ hd ++ x) := Lib.hid (by simp [List.append_assoc])
  have HLN : Hid (0 < [k, n, be8 (hd.length : Nat), hd, x].flatten.length ∧ [k, n, be8 (hd.length : Nat), hd, x].flatten.length ≤ 70368744177000) := Lib.hid (by
    rw [HFL.out]; simp only [List.length_append, be8_len, hk, hn]; omega)
  have HB8 := Lib.hid (cbytesOf_any (hd.length : Nat))
  have HZ8 := Lib.hid (cbe8A_sz (hd.length : Nat))
  have HZL := Lib.hid (be8_len (hd.length : Nat))
  have HKL := Lib.hid hk
  have HNL := Lib.hid hn
  have HTC : Hid (tagC k n hd x = (tagS [116, 97, 103] (k ++ n ++ be8 (hd.length : Nat) ++ hd ++ x)).take 16) := Lib.hid rfl
  have HO8 : Hid ((bvA (List.replicate 8 0)).size = (bvA (be8 (hd.length : Nat))).size) := Lib.hid (by rw [bvA_size, bvA_size, be8_len, List.length_replicate])
  obtain ⟨q, hq⟩ : ∃ q, hd.length = q := ⟨_, rfl⟩
  rw [hq] at HH HFL HLN HB8 HZ8 HZL HTC HO8 ⊢
  obtain ⟨y, hy⟩ : ∃ y, be8 ((q : Nat) : Int) = y := ⟨_, rfl⟩
  rw [hy] at HB8 HFL HLN HZ8 HZL HTC HO8
  obtain ⟨z, hz⟩ : ∃ z, x.length = z := ⟨_, rfl⟩
  rw [hz] at HX ⊢
  clear hq hy hz hx1 hx2 hx3 hx4 hh hT hk hn
  go_enter Tryd.func37, Tryd.ntmps37
  go_wp2_with (first
    | (go_at_call 51; with_reducible refine (HB8.out _).mono ?_; rintro e w2 ⟨rfl, hb2⟩)
    | (refine wpList_storeA rfl 97 (.tmp 9) (.tmp 13) rfl w2.heap.size (bvA y) rfl rfl 97 _ (heap_alloc_new w2 _) HZ8.out HO8.out (bvA_one _) ?_))
  intro w3 h3 hg3
  have HB3 : Hid (Below w2.heap.size w2 w3) := Lib.hid (grown_below ((Below.refl _ _).alloc (Nat.le_refl _) _) hg3 (Nat.le_refl _) (by rw [alloc_size]; omega))
  have HY : Hid (BB w3.drew w2.heap.size 97 y) := Lib.hid (show BB w3 w2.heap.size 97 y from h3)
  have HK3 := Lib.hid (((HKN.out.call hb2).call HB3.out).drew)
  have HH3 := Lib.hid (HH.out.call HK3.out.below)
  have HX3 := Lib.hid (HX.out.call HK3.out.below)
  have HT3 := Lib.hid (HT.out.below HK3.out.below HT.out.lt)
  clear h3 hg3 hb2 HB3 HKN HH HX
  have HCC : Hid (∀ W g, g < W.heap.size → RdVs W g [k, n, y, hd, x] → Calls Tryd.prog 52 #[.slice (some ⟨g, 0, none⟩) 5 5] W fun e w' => ∃ v, e = .returned v ∧ OwnB W.heap.size w' v [k, n, y, hd, x].flatten ∧ Below W.heap.size W w') := Lib.hid (fun W g h1 h2 => concat_any g [k, n, y, hd, x] 5 W h1 h2 (by simp) HLN.out.1 (by have := HLN.out.2; omega))
  rw [HFL.out] at HCC HLN
  obtain ⟨F, hF⟩ : ∃ F, k ++ n ++ y ++ hd ++ x = F := ⟨_, rfl⟩
  rw [hF] at HCC HLN HTC
  obtain ⟨D, hD⟩ : ∃ D, tagS [116, 97, 103] F = D := ⟨_, rfl⟩
  have HTG : Hid (∀ W v, Tab W → RdV W v F → Calls Tryd.prog 21 #[.string ⟨#[116, 97, 103]⟩, v] W fun e w' => e = .returned (.agg (bvA D)) ∧ Below W.heap.size W w') := by
    show ∀ W v, _ → _ → _
    intro W v hTW hv
    obtain ⟨a1, c1, rfl, r1, r2, r3, _⟩ := hv
    rw [← hD]
    exact Tagged_any ⟨#[116, 97, 103]⟩ a1 c1 F W hTW r1 r2 r3 (by decide) (by have := HLN.out.2; omega)
  have HDL : Hid (D.length = 32) := Lib.hid (by rw [← hD, tagS_len])
  rw [hD] at HTC
  clear hF hD HB8 HFL
  have HSD : Hid ((Tryd.prog.info? 46).map (·.size) = some (bvA D).size) := Lib.hid (by rw [bvA_size, HDL.out]; kernel_rfl)
  have HOD : Hid ((bvA (List.replicate 32 0)).size = (bvA D).size) := Lib.hid (by rw [bvA_size, bvA_size, HDL.out, List.length_replicate])
  go_wp2_with fail
  rename_i K0 hK0
  refine region_writes [14, 15, 16, 17, 18, 19, 20, 21, 10] (fun f W => ∃ g, f 10 = .pointer (some ⟨g, 0, none⟩) ∧ BB W g 46 D ∧ Below w.heap.size w W) ?_ ?_
  rotate_left
  · clear hK0 K0
    refine wp_region_held_drew (S := fun _ => True) (by kernel_rfl) trivial (fun hHeld => ?_)
    refine wpAnyH_take (i := 0) (v := .slice (some ⟨w.heap.size, 0, none⟩) 32 32) rfl (by kernel_rfl) (by kernel_rfl) (by kernel_rfl) (fun _ _ _ h => nomatch h.1) (Or.inl ⟨by rfl, fun w _ => by go_simp⟩) hHeld ?_
    simp only [Act.put, List.getElem_toArray, List.getElem_cons_zero, List.getElem_cons_succ, List.setIfInBounds_toArray, List.set_cons_zero, List.set_cons_succ]
    refine wpAnyH_take (i := 1) (v := .slice (some ⟨w.heap.size + 1, 0, none⟩) 12 12) rfl (by kernel_rfl) (by kernel_rfl) (by kernel_rfl) (fun _ _ _ h => nomatch h.1) (Or.inl ⟨by rfl, fun w _ => by go_simp⟩) hHeld ?_
    simp only [Act.put, List.getElem_toArray, List.getElem_cons_zero, List.getElem_cons_succ, List.setIfInBounds_toArray, List.set_cons_zero, List.set_cons_succ]
    refine wpAnyH_take (i := 2) (v := .slice (some ⟨w2.heap.size, 0, none⟩) 8 8) rfl (by kernel_rfl) (by kernel_rfl) (by kernel_rfl) (fun _ _ _ h => nomatch h.1) (Or.inl ⟨by rfl, fun w _ => by go_simp⟩) hHeld ?_
    simp only [Act.put, List.getElem_toArray, List.getElem_cons_zero, List.getElem_cons_succ, List.setIfInBounds_toArray, List.set_cons_zero, List.set_cons_succ]
    refine wpAnyH_take (i := 3) (v := .slice a q cap) rfl (by kernel_rfl) (by kernel_rfl) (by kernel_rfl) (fun _ _ _ h => nomatch h.1) (Or.inl ⟨by rfl, fun w _ => by go_simp⟩) hHeld ?_
    simp only [Act.put, List.getElem_toArray, List.getElem_cons_zero, List.getElem_cons_succ, List.setIfInBounds_toArray, List.set_cons_zero, List.set_cons_succ]
    refine wpAnyH_take (i := 4) (v := .slice ax z cx) rfl (by kernel_rfl) (by kernel_rfl) (by kernel_rfl) (fun _ _ _ h => nomatch h.1) (Or.inl ⟨by rfl, fun w _ => by go_simp⟩) hHeld ?_
    simp only [Act.put, List.getElem_toArray, List.getElem_cons_zero, List.getElem_cons_succ, List.setIfInBounds_toArray, List.set_cons_zero, List.set_cons_succ]
    generalize w3.drew = w4 at *
    have HL9 : Hid (w.heap.size ≤ w4.heap.size) := Lib.hid HK3.out.below.size
    refine wpAnyH_writes [19, 20, 21, 10] (fun L f W => TgJ w4 [k, n, y, hd, x] F D L (f 19) (f 20) (f 21) (f 10) W) [5, 6, 7, 8, 9] (by kernel_rfl) (by kernel_rfl) ?_ trivial ?_ ?_
    · exact ⟨Below.refl _ _, (fun _ e => absurd e (by decide)), (fun _ e => absurd e (by decide)), (fun _ e => absurd e (by decide)), (fun e => absurd e (by decide)), (fun e => absurd e (by decide))⟩
    · intro L f W hJ _ hall
      obtain ⟨g, h1, h2, h3, h4⟩ := hJ.h8 (hall 8 (by simp))
      rw [hall 9 (by simp)] at h4
      exact ⟨rfl, writes_ex (by kernel_rfl) ⟨g, h1, h4, HK3.out.below.trans (hJ.below.mono HL9.out)⟩⟩
    refine StepsI.cons [] rfl (by kernel_rfl) ?_ ?_
    · rintro L a' W ⟨f, rfl, hJ⟩ _ hL hd K hK
      simp only [writes, List.foldl_cons, List.foldl_nil, Act.put, List.setIfInBounds_toArray, List.set_cons_zero, List.set_cons_succ]
      go_simp
      have hb : Below W.heap.size W (W.alloc (.cells #[.slice (some ⟨w.heap.size, 0, none⟩) 32 32, .slice (some ⟨w.heap.size + 1, 0, none⟩) 12 12, .slice (some ⟨w2.heap.size, 0, none⟩) 8 8, .slice a q cap, .slice ax z cx] 24)) := (Below.refl _ _).alloc (Nat.le_refl _) _
      have hr := RdVs.five (T := 24) ((HK3.out.key.rdv 32 HKL.out (by unfold maxLen; omega)).call hJ.below) ((HK3.out.nonce.rdv 12 HNL.out (by unfold maxLen; omega)).call hJ.below) ((HY.out.rdv 8 HZL.out (by unfold maxLen; omega)).call hJ.below) (HH3.out.call hJ.below) (HX3.out.call hJ.below)
      refine hK.out _ _ trivial ?_
      exact writes_ex (by kernel_rfl) ((hJ.call hb).set5 (by rw [alloc_size]; omega) hr)
    refine StepsI.cons [5] rfl (by kernel_rfl) ?_ ?_
    · rintro L a' W ⟨f, rfl, hJ⟩ _ hL hd K hK
      obtain ⟨g, e5, hg, hr⟩ := hJ.h5 (hJ.early (by simp) hL) (hd 5 (by simp))
      simp only [writes, List.foldl_cons, List.foldl_nil, Act.put, List.setIfInBounds_toArray, List.set_cons_zero, List.set_cons_succ]
      rw [e5]
      go_simp
      refine (HCC.out W g hg hr).mono ?_
      rintro e W1 ⟨v, rfl, ho, hb⟩
      have hJ2 := (hJ.call hb).set6 ho.rdv
      rw [e5] at hJ2
      try go_wp2_with fail
      refine hK.out _ _ trivial ?_
      exact writes_ex (by kernel_rfl) hJ2
    refine StepsI.cons [6] rfl (by kernel_rfl) ?_ ?_
    · rintro L a' W ⟨f, rfl, hJ⟩ _ hL hd K hK
      have hv := hJ.h6 (hJ.early (by simp) hL) (hd 6 (by simp))
      have HTW := HT3.out.below hJ.below HT3.out.lt
      simp only [writes, List.foldl_cons, List.foldl_nil, Act.put, List.setIfInBounds_toArray, List.set_cons_zero, List.set_cons_succ]
      go_simp
      refine (HTG.out W (f 20) HTW hv).mono ?_
      rintro e W1 ⟨rfl, hb⟩
      have hJ2 := (hJ.call hb).set7
      try go_wp2_with fail
      refine hK.out _ _ trivial ?_
      exact writes_ex (by kernel_rfl) hJ2
    refine StepsI.cons [] rfl (by kernel_rfl) ?_ ?_
    · rintro L a' W ⟨f, rfl, hJ⟩ _ hL hd K hK
      rw [if_pos (by rfl)]
      refine wp_allocA rfl ?_
      intro W1 g hn hge hb
      have hJ2 := (hJ.call hb).set8 (hJ.early (by simp) hL) (Nat.le_trans hJ.below.size hge) hn
      refine hK.out _ _ trivial ?_
      exact writes_ex (by kernel_rfl) hJ2
    refine StepsI.cons [5, 6, 7, 8] rfl (by kernel_rfl) ?_ StepsI.nil
    · rintro L a' W ⟨f, rfl, hJ⟩ _ hL hd K hK
      obtain ⟨g, e8, hg1, hg2, hBB⟩ := hJ.h8 (hd 8 (by simp))
      have e7 := hJ.h7 hL (hd 7 (by simp))
      rw [hL] at hBB
      rw [if_pos (by rfl)]
      refine wp_storeA 46 (.tmp 10) (.tmp 21) rfl g (bvA D) e8 e7 46 _ hBB HSD.out HOD.out (bvA_one _) ?_
      intro W1 hn hg
      have hJ2 := (e8 ▸ hJ).put9 hg1 hn hg (hd 5 (by simp)) (hd 6 (by simp)) (hd 7 (by simp)) (hd 8 (by simp))
      rw [← e8] at hJ2
      refine hK.out _ _ trivial ?_
      exact writes_ex (by kernel_rfl) hJ2
  rintro f W ⟨g, e10, hBB, hb⟩
  have HBB := Lib.hid hBB
  have HBW := Lib.hid hb
  clear hBB hb
  refine hK0 _ _ ?_
  simp only [writes, List.foldl_cons, List.foldl_nil, Act.put, List.setIfInBounds_toArray, List.set_cons_zero, List.set_cons_succ]
  rw [e10]
  go_wp2_with fail
  go_ret
  refine ⟨_, rfl, ⟨some ⟨g, 0, none⟩, 32, ?_, ?_, ?_, by unfold maxLen; omega, fun h => by cases h⟩, HBW.out⟩
  · rw [HTC.out, List.length_take, HDL.out]; rfl
  · rw [HTC.out]
    exact (HBB.out.rdb (by rw [HDL.out]; unfold maxLen; omega)).take 16
  · rw [HTC.out, List.length_take, HDL.out]; decide
end Go.Proofs.YtpnemdhbdncknaaDoor

namespace Go.Proofs.YtpnemdhbdncknaaDoor
open Go.RowKit
set_option linter.unusedVariables false
set_option linter.unusedSimpArgs false

theorem RdV.str {w : World} {v : Value} {l : List UInt8} (h : RdV w v l) : (convert 24 9 v).run Tryd.prog w = .ok (.string ⟨l.toArray⟩) w := by
  obtain ⟨a, cap, rfl, hr, _⟩ := h
  exact run_strB cap hr
theorem equal_any (a b : Option Addr) (p q c d : Nat) (l m : List UInt8) (w : World) (hl : RdV w (.slice a p c) l) (hm : RdV w (.slice b q d) m) :
    Calls Tryd.prog 42 #[.slice a p c, .slice b q d] w fun e w' => e = .returned (.bool (l == m)) ∧ w' = w := by
  have h1 := hl.str
  have h2 := hm.str
  have h3 := str_beq l m
  clear hl hm
  go_enter Tryd.func42, Tryd.ntmps42
  go_wp2_with fail
  go_ret
  exact ⟨by rw [← h3]; rfl, rfl⟩

set_option maxRecDepth 100000 in
set_option maxHeartbeats 1000000 in
theorem Seal_ok (k n hd l : List UInt8) (hk : k.length = 32) (hn : n.length = 12) (ah : Option Addr) (ch : Nat) (a : Option Addr) (cap : Nat) (w : World) (hT : Tab w) (hh : RdV w (.slice ah hd.length ch) hd) (hl : RdV w (.slice a l.length cap) l) (hhl : hd.length ≤ 70368744100000) (h16 : l.length ≤ 65536) :
    Calls Tryd.prog 18 #[.agg (bvA k), .agg (bvA n), .slice ah hd.length ch, .slice a l.length cap] w fun e w' => ∃ v, e = .returned (.tuple #[v, .int .i64 0]) ∧ OwnB w.heap.size w' v (sealC k n hd l) ∧ Below w.heap.size w w' := by
  have HSK := Lib.hid (key_size k hk)
  have HSN := Lib.hid (nonce_size n hn)
  have HKN := Lib.hid (KN.start w k n)
  have HT := Lib.hid hT
  have HS : Hid (∀ W, Below w.heap.size w W → w.heap.size ≤ W.heap.size → Calls Tryd.prog 36 #[.agg (bvA k), .agg (bvA n), .slice a l.length cap] W fun e w' => ∃ v, e = .returned (.tuple #[v, .int .i64 0]) ∧ OwnB w.heap.size w' v (cstream k n l) ∧ Below W.heap.size W w') := by
    obtain ⟨a', cap', e, h1, h2, h3, _⟩ := hl
    injection e with e1 e2 e3
    subst e1; subst e3
    exact Lib.hid (fun W hW hz => (Stream_ok k n l hk hn a cap W ((h1.below hW).mono hW.size) h2 h3 h16).mono fun e w' ⟨v, h1, h2, h3⟩ => ⟨v, h1, h2.mono hz, h3⟩)
  have HG : Hid (∀ W a c, Below w.heap.size w W → RdV W (.slice a (cstream k n l).length c) (cstream k n l) → Calls Tryd.prog 37 #[.agg (bvA k), .agg (bvA n), .slice ah hd.length ch, .slice a (cstream k n l).length c] W fun e w' => ∃ v', e = .returned v' ∧ RdV w' v' (tagC k n hd (cstream k n l)) ∧ Below W.heap.size W w') :=
    Lib.hid (fun W a c hW hL => tag_any k n hd _ hk hn ah ch _ W (hT.below hW hT.lt) (hh.call hW) hL hhl (by rw [cstream_len]; omega))
  have HSE : Hid (sealC k n hd l = cstream k n l ++ tagC k n hd (cstream k n l)) := Lib.hid rfl
  have HXL := Lib.hid (cstream_len k n l)
  have HTL := Lib.hid (tagC_len k n hd (cstream k n l))
  generalize cstream k n l = X at *
  generalize tagC k n hd X = T at *
  generalize hd.length = p at *
  obtain ⟨q, hq⟩ : ∃ q, l.length = q := ⟨_, rfl⟩
  rw [hq] at h16 HXL HS ⊢
  clear hk hn hl hh hT hq
  go_enter Tryd.func18, Tryd.ntmps18
  go_wp2_with (first
    | (refine wpList_load_row rfl 23 (.tmp 4) rfl w.heap.size rfl _ (bvA k) (0, 0) _ HKN.out.key Tryd.underlying23 rfl HSK.out ?_)
    | (refine wpList_load_row rfl 44 (.tmp 5) rfl (w.heap.size + 1) rfl _ (bvA n) (0, 0) _ HKN.out.nonce Tryd.underlying44 rfl HSN.out ?_)
    | (go_at_call 36; with_reducible refine (HS.out _ HKN.out.below HKN.out.below.size).mono ?_; rintro e w2 ⟨v2, rfl, ho2, hb2⟩; obtain ⟨a2, c2, rfl, -, -⟩ := ho2.form; have HO2 := Lib.hid ho2; have HK2 := Lib.hid (HKN.out.call hb2); clear ho2 hb2)
    | (refine wpList_load_row rfl 23 (.tmp 4) rfl w.heap.size rfl _ (bvA k) (0, 0) _ HK2.out.key Tryd.underlying23 rfl HSK.out ?_)
    | (refine wpList_load_row rfl 44 (.tmp 5) rfl (w.heap.size + 1) rfl _ (bvA n) (0, 0) _ HK2.out.nonce Tryd.underlying44 rfl HSN.out ?_)
    | (go_at_call 37; with_reducible refine (HG.out w2 a2 c2 HK2.out.below HO2.out.rdv).mono ?_; rintro e w3 ⟨v3, rfl, hr3, hb3⟩; obtain ⟨a3, c3, rfl, r1, r2, r3, r4⟩ := hr3.form; have HO3 := Lib.hid (HO2.out.below hb3); have HK3 := Lib.hid (HK2.out.call hb3); clear hb3)
    | (refine wpList_appB rfl (.tmp 20) (.tmp 25) rfl w.heap.size _ X T a3 c3 rfl HO3.out rfl r1 r4 (by rw [HXL.out, HTL.out]; omega) HK3.out.below.size ?_; intro v4 w4 ho4 hg4))
  go_ret2
  rw [HSE.out]
  exact ⟨_, rfl, ho4, HK3.out.below.trans (hg4.below (fun r hr => HO3.out.base r hr) HK3.out.below.size)⟩

theorem Seal_bad (k n : List UInt8) (hk : k.length = 32) (hn : n.length = 12) (hv : Value) (a : Option Addr) (q cap : Nat) (w : World) (h16 : 65536 < q) :
    Calls Tryd.prog 18 #[.agg (bvA k), .agg (bvA n), hv, .slice a q cap] w fun e w' => e = .returned (.tuple #[.slice none 0 0, .int .i64 60]) ∧ Below w.heap.size w w' := by
  have HSK := Lib.hid (key_size k hk)
  have HSN := Lib.hid (nonce_size n hn)
  have HKN := Lib.hid (KN.start w k n)
  have HS := Lib.hid (fun W => Stream_bad k n a q cap W h16)
  go_enter Tryd.func18, Tryd.ntmps18
  go_wp2_with (first
    | (refine wpList_load_row rfl 23 (.tmp 4) rfl w.heap.size rfl _ (bvA k) (0, 0) _ HKN.out.key Tryd.underlying23 rfl HSK.out ?_)
    | (refine wpList_load_row rfl 44 (.tmp 5) rfl (w.heap.size + 1) rfl _ (bvA n) (0, 0) _ HKN.out.nonce Tryd.underlying44 rfl HSN.out ?_)
    | (go_at_call 36; with_reducible refine (HS.out _).mono ?_; rintro e w2 ⟨rfl, hb2⟩))
  go_ret2
  exact ⟨rfl, (HKN.out.call hb2).below⟩
end Go.Proofs.YtpnemdhbdncknaaDoor

namespace Go.Proofs.YtpnemdhbdncknaaDoor
open Go.RowKit
set_option linter.unusedVariables false
set_option linter.unusedSimpArgs false

theorem key_sizeL (k : List UInt8) (hk : k.length = 32) : (Tryd.prog.info? 23).map (·.size) = some (k.map bv).length := by rw [List.length_map, hk]; kernel_rfl
theorem nonce_sizeL (n : List UInt8) (hn : n.length = 12) : (Tryd.prog.info? 44).map (·.size) = some (n.map bv).length := by rw [List.length_map, hn]; kernel_rfl

theorem Open_short (k n : List UInt8) (hv : Value) (a : Option Addr) (q cap : Nat) (w : World) (hq : q < 16 ∨ 65552 < q) (hq2 : q ≤ 9223372036854775807) :
    Calls Tryd.prog 30 #[.agg (bvA k), .agg (bvA n), hv, .slice a q cap] w fun e w' => e = .returned (.tuple #[.slice none 0 0, .int .i64 60]) ∧ Below w.heap.size w w' := by
  have HKN := Lib.hid (KN.start w k n)
  rcases hq with hq | hq
  · have f1 : decide ((q : Int) - 16 < 0) = true := decide_eq_true (by omega)
    have f0 : IntKind.i64.wrap ((q : Int) - 16) = (q : Int) - 16 := IntWalk.i64_in _ (by omega)
    go_enter Tryd.func30, Tryd.ntmps30
    go_wp2_with fail
    go_quiet (fail)
    go_wp2_with fail
    go_ret2
    exact ⟨rfl, below_dN HKN.out.below _⟩
  · have f1 : decide ((q : Int) - 16 < 0) = false := decide_eq_false (by omega)
    have f2 : decide ((65536 : Int) < (q : Int) - 16) = true := decide_eq_true (by omega)
    have f0 : IntKind.i64.wrap ((q : Int) - 16) = (q : Int) - 16 := IntWalk.i64_in _ (by omega)
    go_enter Tryd.func30, Tryd.ntmps30
    go_wp2_with fail
    go_quiet (fail)
    go_wp2_with fail
    go_ret2
    exact ⟨rfl, below_dN HKN.out.below _⟩

/-- What Open answers. -/
def OpenP (good : Bool) (x : List UInt8) (w : World) (e : Ending) (w' : World) : Prop := (match good with | true => ∃ v, e = .returned (.tuple #[v, .int .i64 0]) ∧ OwnB w.heap.size w' v x | false => e = .returned (.tuple #[.slice none 0 0, .int .i64 60])) ∧ Below w.heap.size w w'
theorem OpenP.bad {x : List UInt8} {w w' : World} (h : Below w.heap.size w w') : OpenP false x w (.returned (.tuple #[.slice none 0 0, .int .i64 60])) w' := ⟨rfl, h⟩
theorem OpenP.ok {x : List UInt8} {w w' : World} {v : Value} (ho : OwnB w.heap.size w' v x) (h : Below w.heap.size w w') : OpenP true x w (.returned (.tuple #[v, .int .i64 0])) w' := ⟨⟨v, rfl, ho⟩, h⟩

set_option maxRecDepth 100000 in
set_option maxHeartbeats 2000000 in
theorem Open_in (k n hd l : List UInt8) (s : Nat) (hk : k.length = 32) (hn : n.length = 12) (ah : Option Addr) (ch : Nat) (b o : Nat) (cap : Nat) (w : World) (hT : Tab w) (hh : RdV w (.slice ah hd.length ch) hd) (hl : RdB w.heap.size w (some ⟨b, o, none⟩) l) (hcap : l.length ≤ cap) (hc2 : cap ≤ maxLen) (hhl : hd.length ≤ 70368744100000) (hs : l.length = s + 16) (h16 : s ≤ 65536) :
    Calls Tryd.prog 30 #[.agg (bvA k), .agg (bvA n), .slice ah hd.length ch, .slice (some ⟨b, o, none⟩) (s + 16) cap] w (OpenP (tagged16 k n hd l) (cstream k n (l.take s)) w) := by
  have HSK := Lib.hid (key_sizeL k hk)
  have HSN := Lib.hid (nonce_sizeL n hn)
  have HKN := Lib.hid (KN.start w k n)
  have HT := Lib.hid hT
  have hcs : s ≤ cap := by omega
  have HL1 : Hid (RdV w (.slice (some ⟨b, o, none⟩) s cap) (l.take s)) := Lib.hid ⟨_, _, by rw [List.length_take, hs, Nat.min_eq_left (by omega)], hl.take s, by rw [List.length_take]; omega, hc2, fun e => by cases e⟩
  have HL2 : Hid (RdV w (.slice (some ⟨b, o + s, none⟩) 16 (cap - s)) (l.drop s)) := Lib.hid ⟨_, _, by rw [List.length_drop, hs, Nat.add_sub_cancel_left], hl.drop s, by rw [List.length_drop]; omega, by omega, fun e => by cases e⟩
  have HTL1 : Hid ((l.take s).length = s) := Lib.hid (by rw [List.length_take, hs, Nat.min_eq_left (by omega)])
  have HTG : Hid (tagged16 k n hd l = (tagC k n hd (l.take s) == l.drop s)) := Lib.hid (by
    unfold tagged16; rw [hs, Nat.add_sub_cancel]; rw [Bool.eq_iff_iff, beq_iff_eq, beq_iff_eq]; exact ⟨fun h => h.symm, fun h => h.symm⟩)
  have HG : Hid (∀ W, Below w.heap.size w W → Calls Tryd.prog 37 #[.agg (bvA k), .agg (bvA n), .slice ah hd.length ch, .slice (some ⟨b, o, none⟩) s cap] W fun e w' => ∃ v', e = .returned v' ∧ RdV w' v' (tagC k n hd (l.take s)) ∧ Below W.heap.size W w') :=
    Lib.hid (fun W hW => tag_any k n hd _ hk hn ah ch _ W (hT.below hW hT.lt) (hh.call hW) (HL1.out.call hW) hhl (by rw [HTL1.out]; omega))
  have HS : Hid (∀ W, Below w.heap.size w W → w.heap.size ≤ W.heap.size → Calls Tryd.prog 36 #[.agg (bvA k), .agg (bvA n), .slice (some ⟨b, o, none⟩) s cap] W fun e w' => ∃ v, e = .returned (.tuple #[v, .int .i64 0]) ∧ OwnB w.heap.size w' v (cstream k n (l.take s)) ∧ Below W.heap.size W w') :=
    Lib.hid (fun W hW hz => by
      have h := Stream_ok k n (l.take s) hk hn (some ⟨b, o, none⟩) cap W (((hl.take s).below hW).mono hW.size) (by rw [HTL1.out]; exact hcs) hc2 (by rw [HTL1.out]; exact h16)
      rw [HTL1.out] at h
      exact h.mono fun e w' ⟨v, h1, h2, h3⟩ => ⟨v, h1, h2.mono hz, h3⟩)
  have f1 : decide ((s : Int) < 0) = false := decide_eq_false (by omega)
  have f2 : decide ((65536 : Int) < (s : Int)) = false := decide_eq_false (by omega)
  have f0 : IntKind.i64.wrap (((s + 16 : Nat) : Int) - 16) = (s : Int) := by rw [IntWalk.i64_in _ (by omega)]; omega
  have i0 : (0 : Int) ≤ (s : Int) := by omega
  have i1 : (s : Int) ≤ (cap : Int) := by omega
  have i2 : s + 16 ≤ cap := by omega
  have i3 : (s : Int) ≤ (s : Int) + 16 := by omega
  have i4 : s + 16 - s = 16 := by omega
  have i5 : ¬ cap = s := by omega
  obtain ⟨X, hX⟩ : ∃ X, l.take s = X := ⟨_, rfl⟩
  obtain ⟨Y, hY⟩ : ∃ Y, l.drop s = Y := ⟨_, rfl⟩
  rw [hX] at HL1 HTL1 HTG HG HS
  rw [hY] at HL2 HTG
  rw [hX, HTG.out]
  generalize hd.length = p at *
  obtain ⟨t, ht⟩ : ∃ t, tagC k n hd X = t := ⟨_, rfl⟩
  rw [ht] at HG ⊢
  clear hk hn hl hh hT hX hY hs HTG HTL1 ht
  obtain ⟨w1, hw1⟩ : ∃ w1, w1 = (w.alloc (.cells (bvA k) 23)).alloc (.cells (bvA n) 44) := ⟨_, rfl⟩
  rw [← hw1] at HKN
  have HW1 := Lib.hid hw1
  clear hw1
  go_enter Tryd.func30, Tryd.ntmps30
  go_wp2_with fail
  rw [← HW1.out]
  clear HW1
  have HSB : Hid (∀ W, Below w1.heap.size w1 W → KN w k n W) := Lib.hid (fun W hW => HKN.out.call hW)
  have HB0 : Hid (Below w1.heap.size w1 w1.drew) := (Below.refl _ _).drew
  refine wp_region_held_drew (S := fun W => KN w k n W) (by kernel_rfl) (HSB.out _ HB0.out) (fun hHeld => ?_)
  refine wpAnyH_take (i := 0) (v := .int .i64 s) rfl (by kernel_rfl) (by kernel_rfl) (by kernel_rfl) (fun _ _ _ h => h) (Or.inl ⟨by rfl, fun w _ => by go_simp⟩) hHeld ?_
  simp only [Act.put, List.getElem_toArray, List.getElem_cons_zero, List.getElem_cons_succ, List.setIfInBounds_toArray, List.set_cons_zero, List.set_cons_succ]
  refine wpAnyH_take (i := 1) (v := .bool false) rfl (by kernel_rfl) (by kernel_rfl) (by kernel_rfl) (fun _ _ _ h => h) (Or.inl ⟨by rfl, fun w _ => by go_simp⟩) hHeld ?_
  simp only [Act.put, List.getElem_toArray, List.getElem_cons_zero, List.getElem_cons_succ, List.setIfInBounds_toArray, List.set_cons_zero, List.set_cons_succ]
  refine wpAnyH_take (i := 2) (v := .bool false) rfl (by kernel_rfl) (by kernel_rfl) (by kernel_rfl) (fun _ _ _ h => h) (Or.inl ⟨by rfl, fun w _ => by go_simp⟩) hHeld ?_
  simp only [Act.put, List.getElem_toArray, List.getElem_cons_zero, List.getElem_cons_succ, List.setIfInBounds_toArray, List.set_cons_zero, List.set_cons_succ]
  refine wpAnyH_take (i := 3) (v := .int .i64 s) rfl (by kernel_rfl) (by kernel_rfl) (by kernel_rfl) (fun _ _ _ h => h) (Or.inl ⟨by rfl, fun w _ => by go_simp⟩) hHeld ?_
  simp only [Act.put, List.getElem_toArray, List.getElem_cons_zero, List.getElem_cons_succ, List.setIfInBounds_toArray, List.set_cons_zero, List.set_cons_succ]
  refine wpAnyH_take (i := 4) (v := .bool false) rfl (by kernel_rfl) (by kernel_rfl) (by kernel_rfl) (fun _ _ _ h => h) (Or.inl ⟨by rfl, fun w _ => by go_simp⟩) hHeld ?_
  simp only [Act.put, List.getElem_toArray, List.getElem_cons_zero, List.getElem_cons_succ, List.setIfInBounds_toArray, List.set_cons_zero, List.set_cons_succ]
  refine wpAnyH_take (i := 5) (v := .bool false) rfl (by kernel_rfl) (by kernel_rfl) (by kernel_rfl) (fun _ _ _ h => h) (Or.inl ⟨by rfl, fun w _ => by go_simp⟩) hHeld ?_
  simp only [Act.put, List.getElem_toArray, List.getElem_cons_zero, List.getElem_cons_succ, List.setIfInBounds_toArray, List.set_cons_zero, List.set_cons_succ]
  refine wpAnyH_take (i := 6) (v := .bool false) rfl (by kernel_rfl) (by kernel_rfl) (by kernel_rfl) (fun _ _ _ h => h) (Or.inl ⟨by rfl, fun w _ => by go_simp⟩) hHeld ?_
  simp only [Act.put, List.getElem_toArray, List.getElem_cons_zero, List.getElem_cons_succ, List.setIfInBounds_toArray, List.set_cons_zero, List.set_cons_succ]
  refine wpAnyH_take (i := 7) (v := .agg (bvA k)) rfl (by kernel_rfl) (by kernel_rfl) (by kernel_rfl) (fun _ _ _ h => h) (yieldsIf_load_mid (by rfl) 23 (.tmp 4) rfl w.heap.size 0 rfl (k.map bv) _ (fun _ h => h.key.range) Tryd.underlying23 rfl HSK.out) hHeld ?_
  simp only [Act.put, List.getElem_toArray, List.getElem_cons_zero, List.getElem_cons_succ, List.setIfInBounds_toArray, List.set_cons_zero, List.set_cons_succ]
  refine wpAnyH_take (i := 8) (v := .agg (bvA n)) rfl (by kernel_rfl) (by kernel_rfl) (by kernel_rfl) (fun _ _ _ h => h) (yieldsIf_load_mid (by rfl) 44 (.tmp 5) rfl (w.heap.size + 1) 0 rfl (n.map bv) _ (fun _ h => h.nonce.range) Tryd.underlying44 rfl HSN.out) hHeld ?_
  simp only [Act.put, List.getElem_toArray, List.getElem_cons_zero, List.getElem_cons_succ, List.setIfInBounds_toArray, List.set_cons_zero, List.set_cons_succ]
  refine wpAnyH_take (i := 9) (v := .slice ah p ch) rfl (by kernel_rfl) (by kernel_rfl) (by kernel_rfl) (fun _ _ _ h => h) (Or.inl ⟨by rfl, fun w _ => by go_simp⟩) hHeld ?_
  simp only [Act.put, List.getElem_toArray, List.getElem_cons_zero, List.getElem_cons_succ, List.setIfInBounds_toArray, List.set_cons_zero, List.set_cons_succ]
  refine wpAnyH_take (i := 10) (v := .slice (some ⟨b, o, none⟩) (s + 16) cap) rfl (by kernel_rfl) (by kernel_rfl) (by kernel_rfl) (fun _ _ _ h => h) (Or.inl ⟨by rfl, fun w _ => by go_simp⟩) hHeld ?_
  simp only [Act.put, List.getElem_toArray, List.getElem_cons_zero, List.getElem_cons_succ, List.setIfInBounds_toArray, List.set_cons_zero, List.set_cons_succ]
  refine wpAnyH_take (i := 11) (v := .int .i64 s) rfl (by kernel_rfl) (by kernel_rfl) (by kernel_rfl) (fun _ _ _ h => h) (Or.inl ⟨by rfl, fun w _ => by go_simp⟩) hHeld ?_
  simp only [Act.put, List.getElem_toArray, List.getElem_cons_zero, List.getElem_cons_succ, List.setIfInBounds_toArray, List.set_cons_zero, List.set_cons_succ]
  refine wpAnyH_take (i := 12) (v := .slice (some ⟨b, o, none⟩) s cap) rfl (by kernel_rfl) (by kernel_rfl) (by kernel_rfl) (fun _ _ _ h => h) (Or.inl ⟨by rfl, fun w _ => by go_simp⟩) hHeld ?_
  simp only [Act.put, List.getElem_toArray, List.getElem_cons_zero, List.getElem_cons_succ, List.setIfInBounds_toArray, List.set_cons_zero, List.set_cons_succ]
  refine wpAnyH_take (i := 14) (v := .slice (some ⟨b, o, none⟩) (s + 16) cap) rfl (by kernel_rfl) (by kernel_rfl) (by kernel_rfl) (fun _ _ _ h => h) (Or.inl ⟨by rfl, fun w _ => by go_simp⟩) hHeld ?_
  simp only [Act.put, List.getElem_toArray, List.getElem_cons_zero, List.getElem_cons_succ, List.setIfInBounds_toArray, List.set_cons_zero, List.set_cons_succ]
  refine wpAnyH_take (i := 15) (v := .int .i64 s) rfl (by kernel_rfl) (by kernel_rfl) (by kernel_rfl) (fun _ _ _ h => h) (Or.inl ⟨by rfl, fun w _ => by go_simp⟩) hHeld ?_
  simp only [Act.put, List.getElem_toArray, List.getElem_cons_zero, List.getElem_cons_succ, List.setIfInBounds_toArray, List.set_cons_zero, List.set_cons_succ]
  refine wpAnyH_take (i := 16) (v := .slice (some ⟨b, o + s, none⟩) 16 (cap - s)) rfl (by kernel_rfl) (by kernel_rfl) (by kernel_rfl) (fun _ _ _ h => h) (Or.inl ⟨by rfl, fun w _ => by go_simp⟩) hHeld ?_
  simp only [Act.put, List.getElem_toArray, List.getElem_cons_zero, List.getElem_cons_succ, List.setIfInBounds_toArray, List.set_cons_zero, List.set_cons_succ]
  refine wpAnyH_ready (rs := [13]) (by kernel_rfl) (by simp) (AllReadyH.cons rfl (fun K hK => ?_) AllReadyH.nil)
  go_simp
  refine (HG.out _ (HKN.out.below.trans (HB0.out.mono HKN.out.below.size))).mono ?_
  rintro e w2 ⟨v2, rfl, hr2, hb2⟩
  obtain ⟨a2, c2, rfl, hr3⟩ := hr2.form
  have HR2 := Lib.hid hr2
  have HE2 := Lib.hid (HB0.out.trans (hb2.mono HB0.out.size))
  clear hr2 hr3 hb2
  try go_wp2_with fail
  refine hK.out _ _ (HSB.out _ HE2.out) (fun hHeld => ?_)
  clear hK K
  try simp only [Act.put, List.getElem_toArray, List.getElem_cons_zero, List.getElem_cons_succ, List.setIfInBounds_toArray, List.set_cons_zero, List.set_cons_succ]
  refine wpAnyH_ready (rs := [17]) (by kernel_rfl) (by simp) (AllReadyH.cons rfl (fun K hK => ?_) AllReadyH.nil)
  go_simp
  refine (equal_any _ _ _ _ _ _ t Y w2 HR2.out (HL2.out.call (HKN.out.below.trans (HE2.out.mono HKN.out.below.size)))).mono ?_
  rintro e w3 ⟨rfl, rfl⟩
  try go_wp2_with fail
  refine hK.out _ _ (HSB.out _ HE2.out) (fun hHeld => ?_)
  clear hK K
  try simp only [Act.put, List.getElem_toArray, List.getElem_cons_zero, List.getElem_cons_succ, List.setIfInBounds_toArray, List.set_cons_zero, List.set_cons_succ]
  generalize (t == Y) = bb at *
  refine wpAnyH_take (i := 18) (v := .bool (!bb)) rfl (by kernel_rfl) (by kernel_rfl) (by kernel_rfl) (fun _ _ _ h => h) (Or.inl ⟨by rfl, fun w _ => by go_simp⟩) hHeld ?_
  simp only [Act.put, List.getElem_toArray, List.getElem_cons_zero, List.getElem_cons_succ, List.setIfInBounds_toArray, List.set_cons_zero, List.set_cons_succ]
  refine wpAnyH_take (i := 19) (v := .bool (!bb)) rfl (by kernel_rfl) (by kernel_rfl) (by kernel_rfl) (fun _ _ _ h => h) (Or.inl ⟨by rfl, fun w _ => by go_simp⟩) hHeld ?_
  simp only [Act.put, List.getElem_toArray, List.getElem_cons_zero, List.getElem_cons_succ, List.setIfInBounds_toArray, List.set_cons_zero, List.set_cons_succ]
  refine wpAnyH_done (by kernel_rfl) ?_ _
  have HKW := Lib.hid (HSB.out _ HE2.out)
  clear hHeld HR2 HE2 HB0 HSB HKN HL2 HG
  cases bb
  · simp only [Bool.not_false]
    go_wp2_with fail
    go_ret2
    exact OpenP.bad HKW.out.below
  · simp only [Bool.not_true]
    go_wp2_with fail
    have HSB : Hid (∀ W, Below w3.heap.size w3 W → KN w k n W) := Lib.hid (fun W hW => HKW.out.call hW)
    have HB0 : Hid (Below w3.heap.size w3 w3.drew) := (Below.refl _ _).drew
    refine wp_region_held_drew (S := fun W => KN w k n W) (by kernel_rfl) (HSB.out _ HB0.out) (fun hHeld => ?_)
    refine wpAnyH_take (i := 0) (v := .agg (bvA k)) rfl (by kernel_rfl) (by kernel_rfl) (by kernel_rfl) (fun _ _ _ h => h) (yieldsIf_load_mid (by rfl) 23 (.tmp 4) rfl w.heap.size 0 rfl (k.map bv) _ (fun _ h => h.key.range) Tryd.underlying23 rfl HSK.out) hHeld ?_
    simp only [Act.put, List.getElem_toArray, List.getElem_cons_zero, List.getElem_cons_succ, List.setIfInBounds_toArray, List.set_cons_zero, List.set_cons_succ]
    refine wpAnyH_take (i := 1) (v := .agg (bvA n)) rfl (by kernel_rfl) (by kernel_rfl) (by kernel_rfl) (fun _ _ _ h => h) (yieldsIf_load_mid (by rfl) 44 (.tmp 5) rfl (w.heap.size + 1) 0 rfl (n.map bv) _ (fun _ h => h.nonce.range) Tryd.underlying44 rfl HSN.out) hHeld ?_
    simp only [Act.put, List.getElem_toArray, List.getElem_cons_zero, List.getElem_cons_succ, List.setIfInBounds_toArray, List.set_cons_zero, List.set_cons_succ]
    refine wpAnyH_take (i := 2) (v := .slice (some ⟨b, o, none⟩) (s + 16) cap) rfl (by kernel_rfl) (by kernel_rfl) (by kernel_rfl) (fun _ _ _ h => h) (Or.inl ⟨by rfl, fun w _ => by go_simp⟩) hHeld ?_
    simp only [Act.put, List.getElem_toArray, List.getElem_cons_zero, List.getElem_cons_succ, List.setIfInBounds_toArray, List.set_cons_zero, List.set_cons_succ]
    refine wpAnyH_take (i := 3) (v := .int .i64 s) rfl (by kernel_rfl) (by kernel_rfl) (by kernel_rfl) (fun _ _ _ h => h) (Or.inl ⟨by rfl, fun w _ => by go_simp⟩) hHeld ?_
    simp only [Act.put, List.getElem_toArray, List.getElem_cons_zero, List.getElem_cons_succ, List.setIfInBounds_toArray, List.set_cons_zero, List.set_cons_succ]
    refine wpAnyH_take (i := 4) (v := .slice (some ⟨b, o, none⟩) s cap) rfl (by kernel_rfl) (by kernel_rfl) (by kernel_rfl) (fun _ _ _ h => h) (Or.inl ⟨by rfl, fun w _ => by go_simp⟩) hHeld ?_
    simp only [Act.put, List.getElem_toArray, List.getElem_cons_zero, List.getElem_cons_succ, List.setIfInBounds_toArray, List.set_cons_zero, List.set_cons_succ]
    refine wpAnyH_ready (rs := [5]) (by kernel_rfl) (by simp) (AllReadyH.cons rfl (fun K hK => ?_) AllReadyH.nil)
    go_simp
    refine (HS.out _ (HKW.out.below.trans (HB0.out.mono HKW.out.below.size)) (HKW.out.below.trans (HB0.out.mono HKW.out.below.size)).size).mono ?_
    rintro e w4 ⟨v4, rfl, ho4, hb4⟩
    obtain ⟨a4, c4, rfl, -, -⟩ := ho4.form
    have HO4 := Lib.hid ho4
    have HE4 := Lib.hid (HB0.out.trans (hb4.mono HB0.out.size))
    clear ho4 hb4
    try go_wp2_with fail
    refine hK.out _ _ (HSB.out _ HE4.out) (fun hHeld => ?_)
    clear hK K
    try simp only [Act.put, List.getElem_toArray, List.getElem_cons_zero, List.getElem_cons_succ, List.setIfInBounds_toArray, List.set_cons_zero, List.set_cons_succ]
    generalize cstream k n X = Z at *
    refine wpAnyH_take (i := 6) (v := .slice a4 Z.length c4) rfl (by kernel_rfl) (by kernel_rfl) (by kernel_rfl) (fun _ _ _ h => h) (Or.inl ⟨by rfl, fun w _ => by go_simp⟩) hHeld ?_
    simp only [Act.put, List.getElem_toArray, List.getElem_cons_zero, List.getElem_cons_succ, List.setIfInBounds_toArray, List.set_cons_zero, List.set_cons_succ]
    refine wpAnyH_take (i := 7) (v := .int .i64 0) rfl (by kernel_rfl) (by kernel_rfl) (by kernel_rfl) (fun _ _ _ h => h) (Or.inl ⟨by rfl, fun w _ => by go_simp⟩) hHeld ?_
    simp only [Act.put, List.getElem_toArray, List.getElem_cons_zero, List.getElem_cons_succ, List.setIfInBounds_toArray, List.set_cons_zero, List.set_cons_succ]
    refine wpAnyH_take (i := 8) (v := .slice a4 Z.length c4) rfl (by kernel_rfl) (by kernel_rfl) (by kernel_rfl) (fun _ _ _ h => h) (Or.inl ⟨by rfl, fun w _ => by go_simp⟩) hHeld ?_
    simp only [Act.put, List.getElem_toArray, List.getElem_cons_zero, List.getElem_cons_succ, List.setIfInBounds_toArray, List.set_cons_zero, List.set_cons_succ]
    refine wpAnyH_take (i := 9) (v := .int .i64 0) rfl (by kernel_rfl) (by kernel_rfl) (by kernel_rfl) (fun _ _ _ h => h) (Or.inl ⟨by rfl, fun w _ => by go_simp⟩) hHeld ?_
    simp only [Act.put, List.getElem_toArray, List.getElem_cons_zero, List.getElem_cons_succ, List.setIfInBounds_toArray, List.set_cons_zero, List.set_cons_succ]
    refine wpAnyH_done (by kernel_rfl) ?_ _
    go_wp2_with fail
    go_ret2
    exact OpenP.ok HO4.out (HKW.out.below.trans (HE4.out.mono HKW.out.below.size))
end Go.Proofs.YtpnemdhbdncknaaDoor

namespace Go.Proofs.YtpnemdhbdncknaaDoor
open Go.RowKit
set_option linter.unusedVariables false
set_option linter.unusedSimpArgs false

/-- Bytes and an error. -/
def AnsO (X : List UInt8) (r : Int) (w : World) (e : Ending) (w' : World) : Prop := ∃ v, e = .returned (.tuple #[v, .int .i64 r]) ∧ OwnB w.heap.size w' v X ∧ Below w.heap.size w w'
def AnsR (X : List UInt8) (r : Int) (w : World) (e : Ending) (w' : World) : Prop := ∃ v, e = .returned (.tuple #[v, .int .i64 r]) ∧ RdV w' v X ∧ Below w.heap.size w w'
theorem AnsO.open {X : List UInt8} {r : Int} {w w' : World} {e : Ending} (h : AnsO X r w e w') : ∃ a c, e = .returned (.tuple #[.slice a X.length c, .int .i64 r]) ∧ OwnB w.heap.size w' (.slice a X.length c) X ∧ Below w.heap.size w w' := by
  obtain ⟨v, rfl, ho, hb⟩ := h
  obtain ⟨a, c, rfl, -, -⟩ := ho.form
  exact ⟨a, c, rfl, ho, hb⟩
theorem AnsR.open {X : List UInt8} {r : Int} {w w' : World} {e : Ending} (h : AnsR X r w e w') : ∃ a c, e = .returned (.tuple #[.slice a X.length c, .int .i64 r]) ∧ RdV w' (.slice a X.length c) X ∧ Below w.heap.size w w' := by
  obtain ⟨v, rfl, ho, hb⟩ := h
  obtain ⟨a, c, rfl, h1, h2⟩ := ho.form
  exact ⟨a, c, rfl, ⟨a, c, rfl, h1, h2⟩, hb⟩
theorem RdV.nil (w : World) : RdV w (.slice none 0 0) [] := ⟨none, 0, rfl, ⟨Nat.zero_le _, .inl rfl⟩, Nat.le_refl _, by unfold maxLen; omega, fun _ => rfl⟩
theorem AnsO.none {r : Int} {w w' : World} (hb : Below w.heap.size w w') : AnsO [] r w (.returned (.tuple #[.slice none 0 0, .int .i64 r])) w' := ⟨_, rfl, OwnB.nil _ _, hb⟩

def blockX (k n : List UInt8) (c : Int) : List UInt8 := if 0 ≤ c ∧ c < 4294967296 then cblock k n c.toNat else []
def blockE (c : Int) : Int := if 0 ≤ c ∧ c < 4294967296 then 0 else 1
def streamX (k n l : List UInt8) : List UInt8 := if l.length ≤ 65536 then cstream k n l else []
def streamE (l : List UInt8) : Int := if l.length ≤ 65536 then 0 else 60
def sealX (k n hd l : List UInt8) : List UInt8 := if l.length ≤ 65536 then sealC k n hd l else []
def openX (k n hd l : List UInt8) : List UInt8 := if opensC k n hd l then openC k n hd l else []
def openE (k n hd l : List UInt8) : Int := if opensC k n hd l then 0 else 60

theorem Stream_any (k n : List UInt8) (hk : k.length = 32) (hn : n.length = 12) (l : List UInt8) (a : Option Addr) (q cap : Nat) (w : World) (hl : RdV w (.slice a q cap) l) :
    Calls Tryd.prog 36 #[.agg (bvA k), .agg (bvA n), .slice a q cap] w (AnsO (streamX k n l) (streamE l) w) := by
  obtain ⟨a', cap', e, h1, h2, h3, _⟩ := hl.form
  injection e with e1 e2 e3
  subst e1; subst e2; subst e3
  unfold streamX streamE
  by_cases h : l.length ≤ 65536
  · rw [if_pos h, if_pos h]
    exact Stream_ok k n l hk hn a cap w h1 h2 h3 h
  · rw [if_neg h, if_neg h]
    exact (Stream_bad k n a l.length cap w (by omega)).mono fun e w' ⟨he, hb⟩ => he ▸ AnsO.none hb
theorem Seal_any (k n : List UInt8) (hk : k.length = 32) (hn : n.length = 12) (hd l : List UInt8) (ah : Option Addr) (p ch : Nat) (a : Option Addr) (q cap : Nat) (w : World) (hT : Tab w) (hh : RdV w (.slice ah p ch) hd) (hl : RdV w (.slice a q cap) l) (hhl : hd.length ≤ 70368744100000) :
    Calls Tryd.prog 18 #[.agg (bvA k), .agg (bvA n), .slice ah p ch, .slice a q cap] w (AnsO (sealX k n hd l) (streamE l) w) := by
  obtain ⟨a', cap', e, h1⟩ := hl.form
  injection e with e1 e2 e3
  subst e1; subst e2; subst e3
  obtain ⟨a', cap', e, h2⟩ := hh.form
  injection e with e1 e2 e3
  subst e1; subst e2; subst e3
  unfold sealX streamE
  by_cases h : l.length ≤ 65536
  · rw [if_pos h, if_pos h]
    exact Seal_ok k n hd l hk hn ah ch a cap w hT hh hl hhl h
  · rw [if_neg h, if_neg h]
    exact (Seal_bad k n hk hn _ a l.length cap w (by omega)).mono fun e w' ⟨he, hb⟩ => he ▸ AnsO.none hb
theorem Open_any (k n : List UInt8) (hk : k.length = 32) (hn : n.length = 12) (hd l : List UInt8) (ah : Option Addr) (p ch : Nat) (a : Option Addr) (q cap : Nat) (w : World) (hT : Tab w) (hh : RdV w (.slice ah p ch) hd) (hl : RdV w (.slice a q cap) l) (hhl : hd.length ≤ 70368744100000) :
    Calls Tryd.prog 30 #[.agg (bvA k), .agg (bvA n), .slice ah p ch, .slice a q cap] w (AnsO (openX k n hd l) (openE k n hd l) w) := by
  obtain ⟨a', cap', e, h1, h2, h3, h4⟩ := hl.form
  injection e with e1 e2 e3
  subst e1; subst e2; subst e3
  obtain ⟨a', cap', e, g1⟩ := hh.form
  injection e with e1 e2 e3
  subst e1; subst e2; subst e3
  have hm : l.length ≤ 9223372036854775807 := by have := h1.1; unfold maxLen at this; omega
  unfold openX openE opensC
  by_cases h : 16 ≤ l.length ∧ l.length ≤ 65552
  · rw [decide_eq_true h.1, decide_eq_true h.2, Bool.true_and, Bool.true_and]
    obtain ⟨s, hs⟩ : ∃ s, l.length = s + 16 := ⟨l.length - 16, by omega⟩
    obtain ⟨b, o, rfl, _, _⟩ := h1.at_ (by omega)
    have ho := Open_in k n hd l s hk hn ah ch b o cap w hT hh h1 h2 h3 hhl hs (by omega)
    unfold openC
    rw [hs, Nat.add_sub_cancel]
    refine ho.mono fun e w' hp => ?_
    cases ht : tagged16 k n hd l
    · rw [ht] at hp
      obtain ⟨rfl, hb⟩ := hp
      exact AnsO.none hb
    · rw [ht] at hp
      obtain ⟨⟨v, rfl, ho⟩, hb⟩ := hp
      exact ⟨v, rfl, ho, hb⟩
  · have hx : (decide (16 ≤ l.length) && (decide (l.length ≤ 65552) && tagged16 k n hd l)) = false := by
      by_cases h16 : 16 ≤ l.length
      · rw [decide_eq_false (by omega : ¬ l.length ≤ 65552), Bool.false_and, Bool.and_false]
      · rw [decide_eq_false h16, Bool.false_and]
    rw [hx]
    exact (Open_short k n _ a l.length cap w (by omega) hm).mono fun e w' ⟨he, hb⟩ => he ▸ AnsO.none hb
end Go.Proofs.YtpnemdhbdncknaaDoor
