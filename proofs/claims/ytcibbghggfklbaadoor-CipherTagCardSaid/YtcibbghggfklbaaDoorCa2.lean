/-
  The walk of chartroomlaw06.CipherTag.
-/
import Derived.Test.YtcibbghggfklbaaDoorCl
namespace Go.Proofs.YtcibbghggfklbaaDoor
open Go.RowKit
set_option linter.unusedVariables false
set_option linter.unusedSimpArgs false

/-- What the region of the statement's digest knows, by what has come up. -/
structure TgK (w0 : World) (P H Y D : List UInt8) (v19 : Value) (L : Nat → Bool) (q98 q102 q103 q20 : Value) (W : World) : Prop where
  below : Below w0.heap.size w0 W
  ord : (L 6 = true → L 2 = true) ∧ (L 7 = true → L 6 = true) ∧ (L 9 = true → L 7 = true)
  l98 : L 9 = true → L 8 = true
  a0 : L 2 = false → OwnB w0.heap.size W v19 P
  a2 : L 2 = true → L 6 = false → OwnB w0.heap.size W q98 (P ++ H)
  a6 : L 6 = true → L 7 = false → OwnB w0.heap.size W q102 (P ++ H ++ Y)
  h7 : L 7 = true → q103 = .agg (bvA D)
  h8 : L 8 = true → ∃ g, q20 = .pointer (some ⟨g, 0, none⟩) ∧ w0.heap.size ≤ g ∧ g < W.heap.size ∧ BB W g 41 (if L 9 then D else List.replicate 32 0) ∧ (L 2 = false → v19.ownBlock ≠ some g) ∧ (L 2 = true → L 6 = false → q98.ownBlock ≠ some g) ∧ (L 6 = true → L 7 = false → q102.ownBlock ≠ some g)
theorem BB.grew {w w' : World} {v v' : Value} {g : Nat} {T : TypeId} {l : List UInt8} (h : BB w g T l) (hg : Grew w v w' v') (hne : v.ownBlock ≠ some g) : BB w' g T l := (hg.grown.block g h.lt (Ne.symm hne)).trans h
theorem OwnB.lt_of_own' {B : Nat} {w : World} {v : Value} {l : List UInt8} (h : OwnB B w v l) {g : Nat} (e : v.ownBlock = some g) : g < w.heap.size := (World.ownsRow.lt h g e).2
theorem false_of {b c : Bool} (h : b = true → c = true) (hc : c = false) : b = false := by
  cases b
  · rfl
  · rw [h rfl] at hc; cases hc
section
variable {w0 : World} {P H Y D : List UInt8} {v19 : Value} {L : Nat → Bool} {q98 q102 q103 q20 : Value} {W W' : World}
theorem TgK.set2 (h : TgK w0 P H Y D v19 L q98 q102 q103 q20 W) (hL : L 2 = false) {v : Value} (ho : OwnB w0.heap.size W' v (P ++ H)) (hg : Grew W v19 W' v) : TgK w0 P H Y D v19 (fun j => (j == 2) || L j) v q102 q103 q20 W' := by
  have h6 : L 6 = false := false_of h.ord.1 hL
  have h7 : L 7 = false := false_of h.ord.2.1 h6
  have h9 : L 9 = false := false_of h.ord.2.2 h7
  refine ⟨h.below.trans (hg.below (fun r hr => (h.a0 hL).base r hr) h.below.size), by simp [h6, h7, h9], by simp [h9], fun e => by simp at e, fun _ _ => ho, fun e => by simp [h6] at e, fun e => by simp [h7] at e, fun e => ?_⟩
  obtain ⟨g, e1, e2, e3, e4, e5, e6, e7⟩ := h.h8 (by simpa using e)
  refine ⟨g, e1, e2, Nat.lt_of_lt_of_le e3 hg.size, ?_, fun e => by simp at e, fun _ _ => hg.ne (e5 hL) e3, fun e => by simp [h6] at e⟩
  simpa using e4.grew hg (e5 hL)
theorem TgK.set6 (h : TgK w0 P H Y D v19 L q98 q102 q103 q20 W) (hL : L 6 = false) (h2 : L 2 = true) {v : Value} (ho : OwnB w0.heap.size W' v (P ++ H ++ Y)) (hg : Grew W q98 W' v) : TgK w0 P H Y D v19 (fun j => (j == 6) || L j) q98 v q103 q20 W' := by
  have h7 : L 7 = false := false_of h.ord.2.1 hL
  have h9 : L 9 = false := false_of h.ord.2.2 h7
  refine ⟨h.below.trans (hg.below (fun r hr => (h.a2 h2 hL).base r hr) h.below.size), by simp [h2, h7, h9], by simp [h9], fun e => by simp [h2] at e, fun _ e => by simp at e, fun _ _ => ho, fun e => by simp [h7] at e, fun e => ?_⟩
  obtain ⟨g, e1, e2, e3, e4, e5, e6, e7⟩ := h.h8 (by simpa using e)
  refine ⟨g, e1, e2, Nat.lt_of_lt_of_le e3 hg.size, ?_, fun e => by simp [h2] at e, fun _ e => by simp at e, fun _ _ => hg.ne (e6 h2 hL) e3⟩
  simpa using e4.grew hg (e6 h2 hL)
theorem TgK.set7 (h : TgK w0 P H Y D v19 L q98 q102 q103 q20 W) (hL : L 7 = false) (h6 : L 6 = true) (hb : Below W.heap.size W W') : TgK w0 P H Y D v19 (fun j => (j == 7) || L j) q98 q102 (.agg (bvA D)) q20 W' := by
  have h2 : L 2 = true := h.ord.1 h6
  have h9 : L 9 = false := false_of h.ord.2.2 hL
  refine ⟨h.below.trans (hb.mono h.below.size), by simp [h2, h6, h9], by simp [h9], fun e => by simp [h2] at e, fun _ e => by simp [h6] at e, fun _ e => by simp at e, fun _ => rfl, fun e => ?_⟩
  obtain ⟨g, e1, e2, e3, e4, e5, e6, e7⟩ := h.h8 (by simpa using e)
  refine ⟨g, e1, e2, Nat.lt_of_lt_of_le e3 hb.size, ?_, fun e => by simp [h2] at e, fun _ e => by simp [h6] at e, fun _ e => by simp at e⟩
  simpa using e4.below hb e3
theorem TgK.set8 (h : TgK w0 P H Y D v19 L q98 q102 q103 q20 W) (hL : L 8 = false) (h9 : L 9 = false) {g : Nat} (hn : BB W' g 41 (List.replicate 32 0)) (hge : W.heap.size ≤ g) (hb : Below W.heap.size W W') : TgK w0 P H Y D v19 (fun j => (j == 8) || L j) q98 q102 q103 (.pointer (some ⟨g, 0, none⟩)) W' := by
  refine ⟨h.below.trans (hb.mono h.below.size), by simpa using h.ord, by simp [h9], fun e => (h.a0 (by simpa using e)).below hb, fun e f => (h.a2 (by simpa using e) (by simpa using f)).below hb, fun e f => (h.a6 (by simpa using e) (by simpa using f)).below hb, fun e => h.h7 (by simpa using e), fun _ => ?_⟩
  refine ⟨g, rfl, Nat.le_trans h.below.size hge, hn.lt, by simpa [h9] using hn, fun e f => ?_, fun e e' f => ?_, fun e e' f => ?_⟩
  · have := (h.a0 (by simpa using e)).lt_of_own' f; omega
  · have := (h.a2 (by simpa using e) (by simpa using e')).lt_of_own' f; omega
  · have := (h.a6 (by simpa using e) (by simpa using e')).lt_of_own' f; omega
theorem TgK.put9 {g : Nat} (h : TgK w0 P H Y D v19 L q98 q102 q103 (.pointer (some ⟨g, 0, none⟩)) W) (h7 : L 7 = true) (h8 : L 8 = true) (hge : w0.heap.size ≤ g) (hn : BB W' g 41 D) (hg : W.grownBy W' (some g)) : TgK w0 P H Y D v19 (fun j => (j == 9) || L j) q98 q102 q103 (.pointer (some ⟨g, 0, none⟩)) W' := by
  have h6 : L 6 = true := h.ord.2.1 h7
  have h2 : L 2 = true := h.ord.1 h6
  exact ⟨grown_below h.below hg hge h.below.size, by simp [h2, h6, h7], by simp [h8], fun e => by simp [h2] at e, fun _ e => by simp [h6] at e, fun _ e => by simp [h7] at e, fun _ => h.h7 h7, fun _ => ⟨g, rfl, hge, hn.lt, by simpa using hn, fun e => by simp [h2] at e, fun _ e => by simp [h6] at e, fun _ e => by simp [h7] at e⟩⟩
end
theorem TgK.put9e {w0 : World} {P H Y D : List UInt8} {v19 : Value} {L : Nat → Bool} {q98 q102 q103 q20 : Value} {W W' : World} {g : Nat} (h : TgK w0 P H Y D v19 L q98 q102 q103 q20 W) (e : q20 = .pointer (some ⟨g, 0, none⟩)) (h7 : L 7 = true) (h8 : L 8 = true) (hge : w0.heap.size ≤ g) (hn : BB W' g 41 D) (hg : W.grownBy W' (some g)) : TgK w0 P H Y D v19 (fun j => (j == 9) || L j) q98 q102 q103 q20 W' := by
  subst e
  exact h.put9 h7 h8 hge hn hg
theorem TgK.h9 {w0 : World} {P H Y D : List UInt8} {v19 : Value} {L : Nat → Bool} {q98 q102 q103 q20 : Value} {W : World} (h : TgK w0 P H Y D v19 L q98 q102 q103 q20 W) (h8 : L 8 = true) (h9 : L 9 = false) : ∃ g, q20 = .pointer (some ⟨g, 0, none⟩) ∧ w0.heap.size ≤ g ∧ BB W g 41 (List.replicate 32 0) := by
  obtain ⟨g, e1, e2, e3, e4, -⟩ := h.h8 h8
  rw [h9] at e4
  exact ⟨g, e1, e2, e4⟩
theorem be8_small (p : Nat) (h : p < 65536) : bvA (be8 (p : Nat)) = #[.int .u8 0, .int .u8 0, .int .u8 0, .int .u8 0, .int .u8 0, .int .u8 0, .int .u8 ((p : Int) / 256), .int .u8 ((p : Int) % 256)] := by
  have e : ∀ i, bv (byN (p : Int) i) = .int .u8 ((p : Int) / 2 ^ (56 - 8 * i) % 256) := fun i => (cbv_byN (p : Int) i).symm
  unfold bvA be8
  simp only [List.range_succ, List.range_zero, List.nil_append, List.cons_append, List.map_append, List.map_cons, List.map_nil, e]
  congr 1
  simp
  omega
theorem TgK.late {w0 : World} {P H Y D : List UInt8} {v19 : Value} {L : Nat → Bool} {q98 q102 q103 q20 : Value} {W : World} (h : TgK w0 P H Y D v19 L q98 q102 q103 q20 W) (h9 : L 9 = true) : L 8 = true := h.l98 h9
theorem RdV.tail16 {w : World} {b o M c : Nat} {l : List UInt8} (h : RdV w (.slice (some ⟨b, o, none⟩) (M + 16) c) l) (hc : M + 16 ≤ c) : RdV w (.slice (some ⟨b, o + M, none⟩) 16 (c - M)) (l.drop M) := by
  have hq := h.len
  obtain ⟨a', c', e, h1, h2, h3, h4⟩ := h.form
  injection e with e1 e2 e3
  subst e1; subst e3
  exact ⟨_, _, by rw [List.length_drop, ← hq, Nat.add_sub_cancel_left], h1.drop M, by rw [List.length_drop]; omega, by omega, fun e => by cases e⟩
theorem RdV.head16 {w : World} {g : Nat} {D : List UInt8} (h : BB w g 41 D) (hl : D.length = 32) : RdV w (.slice (some ⟨g, 0, none⟩) 16 32) (D.take 16) :=
  ⟨_, _, by rw [List.length_take, hl]; rfl, (h.rdb (by rw [hl]; unfold maxLen; omega)).take 16, by rw [List.length_take, hl]; decide, by unfold maxLen; omega, fun e => by cases e⟩
theorem KN.setG {w : World} {k n : List UInt8} {wr : World} (h : KN w k n wr) {g : Nat} (hg : w.heap.size + 1 < g) (i : Nat) (v : Value) : KN w k n (wr.setCell ⟨g, i, none⟩ v) :=
  ⟨h.below.setCell (by show w.heap.size ≤ g; omega) v, h.key.setO (by omega) i v, h.nonce.setO (by omega) i v⟩

set_option maxRecDepth 100000 in
set_option maxHeartbeats 4000000 in
theorem tag_walk6 (k n : List UInt8) (hk : k.length = 32) (hn : n.length = 12) (H C : List UInt8) (ah : Option Addr) (p ch : Nat) (ac : Option Addr) (q cc : Nat) (at_ : Int) (cy : UInt8) (w : World) (hT : Tab w) (hH : RdV w (.slice ah p ch) H) (hC : RdV w (.slice ac q cc) C) :
    Calls Tryd.prog 9 #[.agg (bvA k), .agg (bvA n), .slice ah p ch, .slice ac q cc, .int .i64 at_, .int .u8 (cy.toNat : Int)] w fun e w' => e = .returned (.bool true) ∧ Below w.heap.size w w' := by
  have HSK := Lib.hid (key_size k hk)
  have HSN := Lib.hid (nonce_size n hn)
  have HLK := Lib.hid hk
  have HLN := Lib.hid hn
  have HT := Lib.hid hT
  obtain ⟨w1, hw1⟩ : ∃ w1, w1 = (w.alloc (.cells (bvA k) 23)).alloc (.cells (bvA n) 25) := ⟨_, rfl⟩
  have HK1 : Hid (KN w k n w1) := Lib.hid (hw1 ▸ KN.start w k n)
  clear hk hn hT
  have HH := Lib.hid hH
  have HC := Lib.hid hC
  have HPL := Lib.hid hH.len
  have HQL := Lib.hid hC.len
  clear hH hC
  go_enter Tryd.func9, Tryd.ntmps9
  go_wp2_with fail
  rw [← hw1]
  clear hw1
  refine (csane6_any w1 (HT.out.below HK1.out.below HT.out.lt)).mono ?_
  rintro e w2 ⟨rfl, hb2⟩
  have HK2 := Lib.hid (HK1.out.call hb2)
  clear hb2 HK1
  by_cases g1 : 400 < q
  · have f1 : decide ((400 : Int) < (q : Int)) = true := decide_eq_true (by omega)
    go_wp2_with fail
    go_ret
    exact ⟨rfl, HK2.out.below⟩
  have f1 : decide ((400 : Int) < (q : Int)) = false := decide_eq_false (by omega)
  by_cases g2 : 400 < p
  · have f2 : decide ((400 : Int) < (p : Int)) = true := decide_eq_true (by omega)
    go_wp2_with fail
    go_ret
    exact ⟨rfl, HK2.out.below⟩
  have f2 : decide ((400 : Int) < (p : Int)) = false := decide_eq_false (by omega)
  have iq : (q : Int) ≤ 400 := by omega
  have ip : (p : Int) ≤ 400 := by omega
  have HIQ : Hid (q ≤ 400 ∧ p ≤ 400) := Lib.hid (by omega)
  have HHL : Hid (H.length ≤ 70368744100000) := Lib.hid (by rw [← HPL.out]; omega)
  have iw : IntKind.i64.wrap ((q : Int) + 16) = (q : Int) + 16 := IntWalk.i64_in _ (by omega)
  have HXL : Hid ((sealC k n H C).length = q + 16) := Lib.hid (by rw [sealC_len, HQL.out])
  clear g1 g2
  go_wp2_with (first
      | (refine wpList_load_row rfl 23 (.tmp 6) rfl w.heap.size rfl _ (bvA k) (0, 0) _ HK2.out.key Tryd.underlying23 rfl HSK.out ?_)
      | (refine wpList_load_row rfl 25 (.tmp 7) rfl (w.heap.size + 1) rfl _ (bvA n) (0, 0) _ HK2.out.nonce Tryd.underlying25 rfl HSN.out ?_))
  refine (Seal_le k n HLK.out HLN.out H C ah p ch ac q cc w2 (HT.out.below HK2.out.below HT.out.lt) (HH.out.call HK2.out.below) (HC.out.call HK2.out.below) HHL.out (by rw [← HQL.out]; have := HIQ.out; omega)).mono ?_
  rintro e w3 hA
  obtain ⟨a1, c1, rfl, ho1, hb3⟩ := hA.open
  rw [HXL.out] at ho1 ⊢
  have HX3 := Lib.hid ho1.rdv
  have HK3 := Lib.hid (HK2.out.call hb3)
  clear hA ho1 hb3 HK2
  have HO4 : Hid (OwnB w3.heap.size (w3.alloc (.cells #[] 5)) (.slice (some ⟨w3.heap.size, 0, none⟩) 0 0) []) := Lib.hid (OwnB.emptyB (Nat.le_refl _))
  have HE4 : Hid (Below w3.heap.size w3 (w3.alloc (.cells #[] 5))) := Lib.hid ((Below.refl _ _).alloc (Nat.le_refl _) _)
  have HX4 := Lib.hid (HX3.out.call HE4.out)
  obtain ⟨X, hX⟩ : ∃ X, sealC k n H C = X := ⟨_, rfl⟩
  rw [hX] at HXL HX3 HX4
  have HXX := Lib.hid hX
  clear hX
  have HLX : Hid (([] : List UInt8).length + X.length ≤ 140737488355328) := Lib.hid (by rw [HXL.out, List.length_nil]; have := HIQ.out; omega)
  go_wp2_with (obtain ⟨ra, rc, he, r1, r2, r3, r4⟩ := HX4.out.form; injection he with e1 e2 e3; subst e1; subst e3; clear e2; refine wpList_appB rfl (.tmp 53) (.tmp 54) rfl w3.heap.size _ [] X a1 c1 rfl HO4.out (by rw [HXL.out]; rfl) r1 r4 HLX.out HE4.out.size ?_; intro v5 w5 ho5 hg5; rw [List.nil_append] at ho5; have HO5 := Lib.hid ho5; have HE5 := Lib.hid (HE4.out.trans (hg5.below (fun r hr => HO4.out.base r hr) HE4.out.size)); obtain ⟨a5, c5, hv5, -, -⟩ := ho5.form; subst hv5; rw [HXL.out] at HO5; clear ho5 hg5 r1 r2 r3 r4)
  rw [HXL.out]
  obtain ⟨w6, hw6⟩ : ∃ w6, w5.alloc (.cells #[.slice ac q cc, .slice a1 (q + 16) c1, .slice a5 (q + 16) c5] 28) = w6 := ⟨_, rfl⟩
  have hb6 : Below w5.heap.size w5 w6 := hw6 ▸ (Below.refl _ _).alloc (Nat.le_refl _) _
  have HO6 := Lib.hid (HO5.out.below hb6)
  have HE6 := Lib.hid (HE5.out.trans (hb6.mono HE5.out.size))
  have hcc := fun i => cell_of_row _ _ i _ _ _ (heap_alloc_new w5 (.cells #[.slice ac q cc, .slice a1 (q + 16) c1, .slice a5 (q + 16) c5] 28))
  have HD0 : Hid (w6.cell? ⟨w5.heap.size, 0, none⟩ = some (.slice ac q cc)) := Lib.hid (hw6 ▸ hcc 0)
  have HD1 : Hid (w6.cell? ⟨w5.heap.size, 1, none⟩ = some (.slice a1 (q + 16) c1)) := Lib.hid (hw6 ▸ hcc 1)
  have HD2 : Hid (w6.cell? ⟨w5.heap.size, 2, none⟩ = some (.slice a5 (q + 16) c5)) := Lib.hid (hw6 ▸ hcc 2)
  have HGL : Hid (w5.heap.size < w6.heap.size) := Lib.hid (by rw [← hw6, alloc_size]; omega)
  have HK6 := Lib.hid (HK3.out.call HE6.out)
  have HX6 := Lib.hid (HX3.out.call HE6.out)
  have HW3 : Hid (w.heap.size + 1 < w3.heap.size) := Lib.hid HK3.out.lt
  rw [hw6]
  clear hw6 hb6 hcc HO5 HE5 HO4 HE4 HX4 HX3 HK3 iw
  obtain ⟨g, hg⟩ : ∃ g, w5.heap.size = g := ⟨_, rfl⟩
  rw [hg] at HD0 HD1 HD2 HGL ⊢
  clear hg
  go_wp2_with fail
  go_loopw [58] (fun i wr => ∃ j : Nat, j ≤ 3 ∧ i = .int .i64 j ∧ KN w k n wr ∧ (j ≤ 2 → Below w6.heap.size w6 wr)) (fun i _ => 3 - (intOf i).toNat)
  case atStart => exact ⟨0, by omega, rfl, HK6.out, fun _ => Below.refl _ _⟩
  case round =>
    obtain ⟨j, hj, rfl, hk6, hbj⟩ := hrel
    have HK0 := Lib.hid hk6
    clear hk6
    by_cases h3 : j = 3
    · subst h3
      go_wp2_with fail
      go_ret
      exact ⟨rfl, HK0.out.below⟩
    have HBJ := Lib.hid (hbj (by omega))
    clear hbj
    have h012 : j = 0 ∨ j = 1 ∨ j = 2 := by omega
    clear h3 hj
    rcases h012 with rfl | rfl | rfl
    · have HL0 := Lib.hid (HC.out.call HK0.out.below)
      have cz := (HBJ.out.cell (p := ⟨g, 0, none⟩) HGL.out).trans HD0.out
      by_cases h16 : 16 ≤ q
      · obtain ⟨s, hs⟩ : ∃ s, q = s + 16 := ⟨q - 16, by omega⟩
        subst hs
        clear h16
        have HLL : Hid (C.length = s + 16) := Lib.hid HL0.out.len.symm
        have f0 : IntKind.i64.wrap (((s + 16 : Nat) : Int) - 16) = (s : Int) := by rw [IntWalk.i64_in _ (by have := HIQ.out; omega)]; omega
        have f0' : IntKind.i64.wrap (s : Int) = (s : Int) := IntWalk.i64_in _ (by have := HIQ.out; omega)
        have f5 : decide ((0 : Int) ≤ (s : Int)) = true := decide_eq_true (by omega)
        obtain ⟨b, o, hal, -, -⟩ := HL0.out.cell (by omega)
        subst hal
        have hcl := HL0.out.caps
        have HccM : Hid (s + 16 ≤ cc) := Lib.hid hcl
        clear hcl
        go_wp2_with fail
        skip
        have HB0 : Hid (Below wr.heap.size wr wr.drew) := (Below.refl _ _).drew
        have HRK : Hid (∀ W, Below wr.heap.size wr W → RdV W (.slice (some ⟨w.heap.size, 0, none⟩) 32 32) k) := Lib.hid (fun W hW => (HK0.out.key.rdv 32 HLK.out (by unfold maxLen; omega)).call hW)
        have HRN : Hid (∀ W, Below wr.heap.size wr W → RdV W (.slice (some ⟨w.heap.size + 1, 0, none⟩) 12 12) n) := Lib.hid (fun W hW => (HK0.out.nonce.rdv 12 HLN.out (by unfold maxLen; omega)).call hW)
        refine wp_region_held_drew (S := fun _ => True) (by kernel_rfl) trivial (fun hHeld => ?_)
        refine wpAnyH_take (i := 1) (v := .slice (some ⟨w.heap.size, 0, none⟩) 32 32) rfl (by kernel_rfl) (by kernel_rfl) (by kernel_rfl) (fun _ _ _ h => h) (Or.inl ⟨by rfl, fun w _ => by go_simp⟩) hHeld ?_
        simp only [Act.put, List.getElem_toArray, List.getElem_cons_zero, List.getElem_cons_succ, List.setIfInBounds_toArray, List.set_cons_zero, List.set_cons_succ]
        refine wpAnyH_take (i := 3) (v := .slice (some ⟨w.heap.size + 1, 0, none⟩) 12 12) rfl (by kernel_rfl) (by kernel_rfl) (by kernel_rfl) (fun _ _ _ h => h) (Or.inl ⟨by rfl, fun w _ => by go_simp⟩) hHeld ?_
        simp only [Act.put, List.getElem_toArray, List.getElem_cons_zero, List.getElem_cons_succ, List.setIfInBounds_toArray, List.set_cons_zero, List.set_cons_succ]
        refine wpAnyH_ready (rs := [0]) (by kernel_rfl) (by simp) (AllReadyH.cons rfl (fun K hK => ?_) AllReadyH.nil)
        rw [if_pos (by rfl)]
        refine wp_nilB0 rfl ?_
        intro u2 g2 ho hg2 hz hb
        have HO2 : Hid (OwnB wr.heap.size u2 (.slice (some ⟨g2, 0, none⟩) 0 0) []) := Lib.hid (ho.mono HB0.out.size)
        have HE2 := Lib.hid (HB0.out.trans (hb.mono HB0.out.size))
        clear ho hg2 hz hb
        refine hK.out _ _ trivial (fun hHeld => ?_)
        clear hK K
        try simp only [Act.put, List.getElem_toArray, List.getElem_cons_zero, List.getElem_cons_succ, List.setIfInBounds_toArray, List.set_cons_zero, List.set_cons_succ]
        refine wpAnyH_ready (rs := [2]) (by kernel_rfl) (by simp) (AllReadyH.cons rfl (fun K hK => ?_) AllReadyH.nil)
        rw [if_pos (by rfl)]
        obtain ⟨a', c', he, g1, g2', g3, g4⟩ := (HRK.out _ HE2.out).form
        injection he with e1 e2 e3
        subst e1; subst e3; clear e2
        refine wp_appB (.tmp 81) (.tmp 82) rfl wr.heap.size _ ([]) (k) _ _ rfl HO2.out (by rw [HLK.out]; rfl) g1 g4 (by simp only [List.length_nil, List.nil_append, HLK.out, HLN.out]; decide) HE2.out.size ?_
        intro v3 u3 ho hg
        have HO3 : Hid (OwnB wr.heap.size u3 v3 ([] ++ k)) := Lib.hid ho
        have HE3 := Lib.hid (HE2.out.trans (hg.below (fun r hr => HO2.out.base r hr) HE2.out.size))
        clear ho hg g1 g2' g3 g4
        refine hK.out _ _ trivial (fun hHeld => ?_)
        clear hK K
        try simp only [Act.put, List.getElem_toArray, List.getElem_cons_zero, List.getElem_cons_succ, List.setIfInBounds_toArray, List.set_cons_zero, List.set_cons_succ]
        refine wpAnyH_ready (rs := [4]) (by kernel_rfl) (by simp) (AllReadyH.cons rfl (fun K hK => ?_) AllReadyH.nil)
        rw [if_pos (by rfl)]
        obtain ⟨a', c', he, g1, g2', g3, g4⟩ := (HRN.out _ HE3.out).form
        injection he with e1 e2 e3
        subst e1; subst e3; clear e2
        refine wp_appB (.tmp 83) (.tmp 84) rfl wr.heap.size _ ([] ++ k) (n) _ _ rfl HO3.out (by rw [HLN.out]; rfl) g1 g4 (by simp only [List.length_nil, List.nil_append, HLK.out, HLN.out]; decide) HE3.out.size ?_
        intro v4 u4 ho hg
        have HO4 : Hid (OwnB wr.heap.size u4 v4 ([] ++ k ++ n)) := Lib.hid ho
        have HE4 := Lib.hid (HE3.out.trans (hg.below (fun r hr => HO3.out.base r hr) HE3.out.size))
        clear ho hg g1 g2' g3 g4
        refine hK.out _ _ trivial (fun hHeld => ?_)
        clear hK K
        try simp only [Act.put, List.getElem_toArray, List.getElem_cons_zero, List.getElem_cons_succ, List.setIfInBounds_toArray, List.set_cons_zero, List.set_cons_succ]
        rw [List.nil_append] at HO4
        obtain ⟨a4, c4, hv4, -, -⟩ := HO4.out.form
        rw [hv4] at HO4
        subst hv4
        refine wpAnyH_take (i := 5) (v := .slice a4 (k ++ n).length c4) rfl (by kernel_rfl) (by kernel_rfl) (by kernel_rfl) (fun _ _ _ h => h) (Or.inl ⟨by rfl, fun w _ => by go_simp⟩) hHeld ?_
        simp only [Act.put, List.getElem_toArray, List.getElem_cons_zero, List.getElem_cons_succ, List.setIfInBounds_toArray, List.set_cons_zero, List.set_cons_succ]
        refine wpAnyH_done (by kernel_rfl) ?_ _
        have HPL4 : Hid ((k ++ n).length = 44) := Lib.hid (by rw [List.length_append, HLK.out, HLN.out])
        rw [HPL4.out] at HO4 ⊢
        clear HO3 HO2 HE2 HE3 HB0 hHeld HRK HRN
        have hb5 : Below u4.heap.size u4 (u4.alloc (.cells #[.int .u8 0, .int .u8 0, .int .u8 0, .int .u8 0, .int .u8 0, .int .u8 0, .int .u8 ((p : Int) / 256), .int .u8 ((p : Int) % 256)] 5)) := (Below.refl _ _).alloc (Nat.le_refl _) _
        have HRX : Hid (RdV (u4.alloc (.cells #[.int .u8 0, .int .u8 0, .int .u8 0, .int .u8 0, .int .u8 0, .int .u8 0, .int .u8 ((p : Int) / 256), .int .u8 ((p : Int) % 256)] 5)) (.slice (some ⟨u4.heap.size, 0, none⟩) 8 8) (be8 (p : Nat))) := Lib.hid (by
          rw [← be8_small p (by have := HIQ.out; omega)]
          exact (BB.new u4 5 (be8 (p : Nat))).rdv 8 (be8_len _) (by unfold maxLen; omega))
        have HO5 := Lib.hid (HO4.out.below hb5)
        have HE5 := Lib.hid (HE4.out.trans (hb5.mono HE4.out.size))
        clear hb5 HO4 HE4
        have HL52 : Hid ((k ++ n).length + (be8 (p : Nat)).length ≤ 140737488355328) := Lib.hid (by rw [HPL4.out, be8_len]; decide)
        go_wp2_with (obtain ⟨ra, rc, he, r1, r2, r3, r4⟩ := HRX.out.form; injection he with e1 e2 e3; subst e1; subst e3; clear e2; refine wpList_appB rfl (.tmp 86) (.tmp 94) rfl wr.heap.size _ (k ++ n) (be8 (p : Nat)) _ 8 rfl HO5.out (by rw [be8_len]; rfl) r1 r4 HL52.out HE5.out.size ?_; intro v6 u6 ho6 hg6; obtain ⟨P, hP⟩ : ∃ P, k ++ n ++ be8 (p : Nat) = P := ⟨_, rfl⟩; rw [hP] at ho6; have HPP := Lib.hid hP; clear hP; have HO6' := Lib.hid ho6; have HE6' := Lib.hid (HE5.out.trans (hg6.below (fun r hr => HO5.out.base r hr) HE5.out.size)); obtain ⟨a6, c6, hv6, -, -⟩ := ho6.form; subst hv6; clear ho6 hg6 r1 r2 r3 r4)
        have HPL5 : Hid (P.length = 52) := Lib.hid (by rw [← HPP.out, List.length_append, HPL4.out, be8_len])
        rw [HPL5.out] at HO6' ⊢
        have HTC : Hid (tagC k n H (C.take s) = (tagS [116, 97, 103] (P ++ H ++ C.take s)).take 16) := Lib.hid (by rw [← HPP.out, HPL.out]; rfl)
        clear HPP HO5 HE5 HRX HL52
        have HYM : Hid ((C.take s).length = s) := Lib.hid (by rw [List.length_take, HLL.out]; omega)
        have HRH : Hid (∀ W, Below wr.heap.size wr W → RdV W (.slice ah p ch) H) := Lib.hid (fun W hW => HH.out.call (HK0.out.below.trans (hW.mono HK0.out.below.size)))
        have HRY : Hid (∀ W, Below wr.heap.size wr W → RdV W (.slice (some ⟨b, o, none⟩) s cc) (C.take s)) := Lib.hid (fun W hW => (HL0.out.cut s (by omega)).call hW)
        have HML : Hid ((P ++ H ++ C.take s).length ≤ 1152921504606840000) := Lib.hid (by rw [List.length_append, List.length_append, HPL5.out, HYM.out, ← HPL.out]; have := HIQ.out; omega)
        have HL1 : Hid (P.length + H.length ≤ 140737488355328) := Lib.hid (by rw [HPL5.out, ← HPL.out]; have := HIQ.out; omega)
        have HL2 : Hid ((P ++ H).length + (C.take s).length ≤ 140737488355328) := Lib.hid (by rw [List.length_append, HPL5.out, ← HPL.out, HYM.out]; have := HIQ.out; omega)
        obtain ⟨D, hD⟩ : ∃ D, tagS [116, 97, 103] (P ++ H ++ C.take s) = D := ⟨_, rfl⟩
        have HDL : Hid (D.length = 32) := Lib.hid (by rw [← hD, tagS_len])
        have HTG : Hid (∀ W v, Tab W → RdV W v (P ++ H ++ C.take s) → Calls Tryd.prog 20 #[.string ⟨#[116, 97, 103]⟩, v] W fun e w' => e = .returned (.agg (bvA D)) ∧ Below W.heap.size W w') := by
          show ∀ W v, _ → _ → _
          intro W v hTW hv
          obtain ⟨a1, c1, rfl, r1, r2, r3, _⟩ := hv
          rw [← hD]
          exact Tagged_any ⟨#[116, 97, 103]⟩ a1 c1 _ W hTW r1 r2 r3 (by decide) HML.out
        rw [hD] at HTC
        have HSD : Hid ((Tryd.prog.info? 41).map (·.size) = some (bvA D).size) := Lib.hid (by rw [bvA_size, HDL.out]; kernel_rfl)
        have HOD : Hid ((bvA (List.replicate 32 0)).size = (bvA D).size) := Lib.hid (by rw [bvA_size, bvA_size, HDL.out, List.length_replicate])
        have HT0 : Hid (Tab wr) := Lib.hid (HT.out.below HK0.out.below HT.out.lt)
        clear hD
        have i1 : (s : Int) ≤ (cc : Int) := by have := HccM.out; omega
        have i2 : s + 16 ≤ cc := HccM.out
        have i3 : (s : Int) ≤ (s : Int) + 16 := by omega
        have i5 : ¬ cc = s := by omega
        have i6 : s + 16 - s = 16 := by omega
        go_wp2_with fail
        rename_i K0 hK0
        refine region_writes [96, 97, 98, 99, 100, 101, 102, 103, 20] (fun f W => ∃ g, f 20 = .pointer (some ⟨g, 0, none⟩) ∧ BB W g 41 D ∧ Below wr.heap.size wr W) ?_ ?_
        rotate_left
        · clear hK0 K0
          refine wp_region_held_drew (S := fun _ => True) (by kernel_rfl) trivial (fun hHeld => ?_)
          refine wpAnyH_take (i := 0) (v := .slice a6 52 c6) rfl (by kernel_rfl) (by kernel_rfl) (by kernel_rfl) (fun _ _ _ h => nomatch h.1) (Or.inl ⟨by rfl, fun w _ => by go_simp⟩) hHeld ?_
          simp only [Act.put, List.getElem_toArray, List.getElem_cons_zero, List.getElem_cons_succ, List.setIfInBounds_toArray, List.set_cons_zero, List.set_cons_succ]
          refine wpAnyH_take (i := 1) (v := .slice ah p ch) rfl (by kernel_rfl) (by kernel_rfl) (by kernel_rfl) (fun _ _ _ h => nomatch h.1) (Or.inl ⟨by rfl, fun w _ => by go_simp⟩) hHeld ?_
          simp only [Act.put, List.getElem_toArray, List.getElem_cons_zero, List.getElem_cons_succ, List.setIfInBounds_toArray, List.set_cons_zero, List.set_cons_succ]
          refine wpAnyH_take (i := 3) (v := .slice (some ⟨b, o, none⟩) (s + 16) cc) rfl (by kernel_rfl) (by kernel_rfl) (by kernel_rfl) (fun _ _ _ h => nomatch h.1) (Or.inl ⟨by rfl, fun w _ => by go_simp⟩) hHeld ?_
          simp only [Act.put, List.getElem_toArray, List.getElem_cons_zero, List.getElem_cons_succ, List.setIfInBounds_toArray, List.set_cons_zero, List.set_cons_succ]
          refine wpAnyH_take (i := 4) (v := .int .i64 s) rfl (by kernel_rfl) (by kernel_rfl) (by kernel_rfl) (fun _ _ _ h => nomatch h.1) (Or.inl ⟨by rfl, fun w _ => by go_simp⟩) hHeld ?_
          simp only [Act.put, List.getElem_toArray, List.getElem_cons_zero, List.getElem_cons_succ, List.setIfInBounds_toArray, List.set_cons_zero, List.set_cons_succ]
          refine wpAnyH_take (i := 5) (v := .slice (some ⟨b, o, none⟩) s cc) rfl (by kernel_rfl) (by kernel_rfl) (by kernel_rfl) (fun _ _ _ h => nomatch h.1) (Or.inl ⟨by rfl, fun w _ => by go_simp⟩) hHeld ?_
          simp only [Act.put, List.getElem_toArray, List.getElem_cons_zero, List.getElem_cons_succ, List.setIfInBounds_toArray, List.set_cons_zero, List.set_cons_succ]
          refine wpAnyH_writes [98, 102, 103, 20] (fun L f W => TgK wr P H (C.take s) D (.slice a6 52 c6) L (f 98) (f 102) (f 103) (f 20) W) [2, 6, 7, 8, 9] (by kernel_rfl) (by kernel_rfl) ?_ trivial ?_ ?_
          · exact ⟨HE6'.out.drew, ⟨(fun e => absurd e (by decide)), (fun e => absurd e (by decide)), (fun e => absurd e (by decide))⟩, (fun e => absurd e (by decide)), (fun _ => HO6'.out.drew), (fun e => absurd e (by decide)), (fun e => absurd e (by decide)), (fun e => absurd e (by decide)), (fun e => absurd e (by decide))⟩
          · intro L f W hJ _ hall
            obtain ⟨g, h1, h2, h3, h4, _⟩ := hJ.h8 (hall 8 (by simp))
            rw [hall 9 (by simp)] at h4
            exact ⟨rfl, writes_ex (by kernel_rfl) ⟨g, h1, h4, hJ.below⟩⟩
          refine StepsI.cons [] rfl (by kernel_rfl) ?_ ?_
          · rintro L a' W ⟨f, rfl, hJ⟩ _ hL hd K hK
            simp only [writes, List.foldl_cons, List.foldl_nil, Act.put, List.setIfInBounds_toArray, List.set_cons_zero, List.set_cons_succ]
            rw [if_pos (by rfl)]
            obtain ⟨ra, rc, he, r1, r2, r3, r4⟩ := (HRH.out _ hJ.below).form
            injection he with e1 e2 e3
            subst e1; subst e3
            refine wp_appB (.tmp 96) (.tmp 97) rfl wr.heap.size _ P H ah ch rfl (hJ.a0 hL) (by rw [← HPL.out]; rfl) r1 r4 HL1.out hJ.below.size ?_
            intro v W1 ho hg
            exact hK.out _ _ trivial (writes_ex (by kernel_rfl) (hJ.set2 hL ho hg))
          refine StepsI.cons [2] rfl (by kernel_rfl) ?_ ?_
          · rintro L a' W ⟨f, rfl, hJ⟩ _ hL hd K hK
            simp only [writes, List.foldl_cons, List.foldl_nil, Act.put, List.setIfInBounds_toArray, List.set_cons_zero, List.set_cons_succ]
            rw [if_pos (by rfl)]
            obtain ⟨ra, rc, he, r1, r2, r3, r4⟩ := (HRY.out _ hJ.below).form
            injection he with e1 e2 e3
            subst e1; subst e3
            refine wp_appB (.tmp 98) (.tmp 101) rfl wr.heap.size (f 98) (P ++ H) (C.take s) (some ⟨b, o, none⟩) cc rfl (hJ.a2 (hd 2 (by simp)) hL) (by rw [HYM.out]; rfl) r1 r4 HL2.out hJ.below.size ?_
            intro v W1 ho hg
            exact hK.out _ _ trivial (writes_ex (by kernel_rfl) (hJ.set6 hL (hd 2 (by simp)) ho hg))
          refine StepsI.cons [6] rfl (by kernel_rfl) ?_ ?_
          · rintro L a' W ⟨f, rfl, hJ⟩ _ hL hd K hK
            have ho := hJ.a6 (hd 6 (by simp)) hL
            simp only [writes, List.foldl_cons, List.foldl_nil, Act.put, List.setIfInBounds_toArray, List.set_cons_zero, List.set_cons_succ]
            go_simp
            refine (HTG.out W (f 102) (HT0.out.below hJ.below HT0.out.lt) ho.rdv).mono ?_
            rintro e W1 ⟨rfl, hb⟩
            have hJ2 := hJ.set7 hL (hd 6 (by simp)) hb
            try go_wp2_with fail
            refine hK.out _ _ trivial ?_
            exact writes_ex (by kernel_rfl) hJ2
          refine StepsI.cons [] rfl (by kernel_rfl) ?_ ?_
          · rintro L a' W ⟨f, rfl, hJ⟩ _ hL hd K hK
            simp only [writes, List.foldl_cons, List.foldl_nil, Act.put, List.setIfInBounds_toArray, List.set_cons_zero, List.set_cons_succ]
            rw [if_pos (by rfl)]
            refine wp_allocA rfl ?_
            intro W1 g hn hge hb
            have h9 : L 9 = false := by
              cases h : L 9
              · rfl
              · exact absurd (hJ.late h) (by rw [hL]; decide)
            exact hK.out _ _ trivial (writes_ex (by kernel_rfl) (hJ.set8 hL h9 hn hge hb))
          refine StepsI.cons [7, 8] rfl (by kernel_rfl) ?_ StepsI.nil
          · rintro L a' W ⟨f, rfl, hJ⟩ _ hL hd K hK
            have hd8 : L 8 = true := hd 8 (by simp)
            have hd7 : L 7 = true := hd 7 (by simp)
            have e7 := hJ.h7 hd7
            refine (hJ.h9 hd8 hL).elim ?_
            intro g hh
            have e8 := hh.1
            have hg1 := hh.2.1
            have hBB := hh.2.2
            simp only [writes, List.foldl_cons, List.foldl_nil, Act.put, List.setIfInBounds_toArray, List.set_cons_zero, List.set_cons_succ]
            rw [if_pos (by rfl)]
            refine wp_storeA 41 (.tmp 20) (.tmp 103) rfl g (bvA D) e8 e7 41 _ hBB HSD.out HOD.out (bvA_one _) ?_
            intro W1 hn hg
            have hJ2 := hJ.put9e e8 hd7 hd8 hg1 hn hg
            exact hK.out _ _ trivial (writes_ex (by kernel_rfl) hJ2)
        rintro f W ⟨gd, e20, hBB, hbW⟩
        have HKW := Lib.hid (HK0.out.call hbW)
        have hL0 := HL0.out.call hbW
        have v1 := RdV.str (w := W.drew) (RdV.tail16 hL0 HccM.out)
        skip
        have v2 := RdV.str (w := W.drew) (RdV.head16 hBB HDL.out)
        have HLW := Lib.hid hL0
        have HBW := Lib.hid hbW
        have hst := str_beq (C.drop s) (D.take 16)
        obtain ⟨t1, q1⟩ : ∃ z, (⟨(C.drop s).toArray⟩ : ByteArray) = z := ⟨_, rfl⟩
        obtain ⟨t2, q2⟩ : ∃ z, (⟨(D.take 16).toArray⟩ : ByteArray) = z := ⟨_, rfl⟩
        rw [q1, q2] at hst
        rw [q1] at v1
        rw [q2] at v2
        obtain ⟨bb, hbb⟩ : ∃ bb, (C.drop s == D.take 16) = bb := ⟨_, rfl⟩
        rw [hbb] at hst
        have HOP : Hid (opensC k n H C = bb) := Lib.hid (by
          unfold opensC tagged16
          rw [HLL.out, Nat.add_sub_cancel, HTC.out, hbb, decide_eq_true (by omega), decide_eq_true (by have := HIQ.out; omega)]; rfl)
        clear hBB hbW hL0 q1 q2 hbb
        refine hK0 _ _ ?_
        simp only [writes, List.foldl_cons, List.foldl_nil, Act.put, List.setIfInBounds_toArray, List.set_cons_zero, List.set_cons_succ]
        rw [e20]
        go_wp2_with fail
        go_still (by kernel_rfl)
        have HKD := Lib.hid HKW.out.drew
        clear v1 v2
        go_wp2_with (first
          | (refine wpList_load_row rfl 23 (.tmp 6) rfl w.heap.size rfl _ (bvA k) (0, 0) _ HKD.out.key Tryd.underlying23 rfl HSK.out ?_)
          | (refine wpList_load_row rfl 25 (.tmp 7) rfl (w.heap.size + 1) rfl _ (bvA n) (0, 0) _ HKD.out.nonce Tryd.underlying25 rfl HSN.out ?_))
        refine (Open_any k n HLK.out HLN.out H C ah p ch (some ⟨b, o, none⟩) (s + 16) cc W.drew (HT.out.below HKD.out.below HT.out.lt) (HH.out.call HKD.out.below) (HLW.out.call (Below.refl _ _).drew) HHL.out).mono ?_
        unfold openX openE
        rw [HOP.out]
        rintro e W9 hA
        have HK9 : Hid (KN w k n W9 ∧ Below wr.heap.size wr W9) := Lib.hid (by
          obtain ⟨v, _, _, hb⟩ := hA
          exact ⟨HKD.out.call hb, (HBW.out.drew).trans (hb.mono HBW.out.drew.size)⟩)
        cases bb
        · rw [if_neg (by decide), if_neg (by decide)] at hA
          obtain ⟨a9, c9, rfl, -, -⟩ := hA.open
          clear hA
          go_wp2_with fail
          go_roundw
          case rel =>
            repeat apply Exists.intro
            exact ⟨⟨1, by omega, by go_num, HK9.out.1, fun _ => HBJ.out.trans (HK9.out.2.mono HBJ.out.size)⟩, rfl⟩
          case measure => simp [intOf]
        · rw [if_pos rfl, if_pos rfl] at hA
          obtain ⟨a9, c9, rfl, -, -⟩ := hA.open
          clear hA
          generalize (openC k n H C).length = ol at *
          go_wp2_with fail
          go_roundw
          case rel =>
            repeat apply Exists.intro
            exact ⟨⟨1, by omega, by go_num, HK9.out.1, fun _ => HBJ.out.trans (HK9.out.2.mono HBJ.out.size)⟩, rfl⟩
          case measure => simp [intOf]
      · have f0 : IntKind.i64.wrap ((q : Int) - 16) = (q : Int) - 16 := IntWalk.i64_in _ (by omega)
        have f5 : decide ((0 : Int) ≤ (q : Int) - 16) = false := decide_eq_false (by omega)
        have f6 : decide ((16 : Int) ≤ (q : Int)) = false := decide_eq_false (by omega)
        have HOP : Hid (opensC k n H C = false) := Lib.hid (by unfold opensC; rw [← HQL.out, decide_eq_false h16, Bool.false_and])
        clear h16
        go_wp2_with (first
          | (refine wpList_load_row rfl 23 (.tmp 6) rfl w.heap.size rfl _ (bvA k) (0, 0) _ HK0.out.key Tryd.underlying23 rfl HSK.out ?_)
          | (refine wpList_load_row rfl 25 (.tmp 7) rfl (w.heap.size + 1) rfl _ (bvA n) (0, 0) _ HK0.out.nonce Tryd.underlying25 rfl HSN.out ?_))
        refine (Open_any k n HLK.out HLN.out H C ah p ch ac q cc wr (HT.out.below HK0.out.below HT.out.lt) (HH.out.call HK0.out.below) HL0.out HHL.out).mono ?_
        unfold openX openE
        rw [HOP.out, if_neg (by decide), if_neg (by decide)]
        rintro e W9 hA
        obtain ⟨a9, c9, rfl, -, hb⟩ := hA.open
        have HK9 := Lib.hid (HK0.out.call hb)
        have HB9 := Lib.hid (HBJ.out.trans (hb.mono HBJ.out.size))
        clear hA hb
        go_wp2_with fail
        go_roundw
        case rel => exact ⟨1, by omega, by go_num, HK9.out, fun _ => HB9.out⟩
        case measure => simp [intOf]
    · have HL0 := Lib.hid (HX6.out.call HBJ.out)
      have cz := (HBJ.out.cell (p := ⟨g, 1, none⟩) HGL.out).trans HD1.out
      have HLL : Hid (X.length = q + 16) := Lib.hid HL0.out.len.symm
      have f0 : IntKind.i64.wrap (((q + 16 : Nat) : Int) - 16) = (q : Int) := by rw [IntWalk.i64_in _ (by have := HIQ.out; omega)]; omega
      have f0' : IntKind.i64.wrap (q : Int) = (q : Int) := IntWalk.i64_in _ (by have := HIQ.out; omega)
      have f5 : decide ((0 : Int) ≤ (q : Int)) = true := decide_eq_true (by omega)
      obtain ⟨b, o, hal, -, -⟩ := HL0.out.cell (by omega)
      subst hal
      have hcl := HL0.out.caps
      have Hc1M : Hid (q + 16 ≤ c1) := Lib.hid hcl
      clear hcl
      go_wp2_with fail
      skip
      have HB0 : Hid (Below wr.heap.size wr wr.drew) := (Below.refl _ _).drew
      have HRK : Hid (∀ W, Below wr.heap.size wr W → RdV W (.slice (some ⟨w.heap.size, 0, none⟩) 32 32) k) := Lib.hid (fun W hW => (HK0.out.key.rdv 32 HLK.out (by unfold maxLen; omega)).call hW)
      have HRN : Hid (∀ W, Below wr.heap.size wr W → RdV W (.slice (some ⟨w.heap.size + 1, 0, none⟩) 12 12) n) := Lib.hid (fun W hW => (HK0.out.nonce.rdv 12 HLN.out (by unfold maxLen; omega)).call hW)
      refine wp_region_held_drew (S := fun _ => True) (by kernel_rfl) trivial (fun hHeld => ?_)
      refine wpAnyH_take (i := 1) (v := .slice (some ⟨w.heap.size, 0, none⟩) 32 32) rfl (by kernel_rfl) (by kernel_rfl) (by kernel_rfl) (fun _ _ _ h => h) (Or.inl ⟨by rfl, fun w _ => by go_simp⟩) hHeld ?_
      simp only [Act.put, List.getElem_toArray, List.getElem_cons_zero, List.getElem_cons_succ, List.setIfInBounds_toArray, List.set_cons_zero, List.set_cons_succ]
      refine wpAnyH_take (i := 3) (v := .slice (some ⟨w.heap.size + 1, 0, none⟩) 12 12) rfl (by kernel_rfl) (by kernel_rfl) (by kernel_rfl) (fun _ _ _ h => h) (Or.inl ⟨by rfl, fun w _ => by go_simp⟩) hHeld ?_
      simp only [Act.put, List.getElem_toArray, List.getElem_cons_zero, List.getElem_cons_succ, List.setIfInBounds_toArray, List.set_cons_zero, List.set_cons_succ]
      refine wpAnyH_ready (rs := [0]) (by kernel_rfl) (by simp) (AllReadyH.cons rfl (fun K hK => ?_) AllReadyH.nil)
      rw [if_pos (by rfl)]
      refine wp_nilB0 rfl ?_
      intro u2 g2 ho hg2 hz hb
      have HO2 : Hid (OwnB wr.heap.size u2 (.slice (some ⟨g2, 0, none⟩) 0 0) []) := Lib.hid (ho.mono HB0.out.size)
      have HE2 := Lib.hid (HB0.out.trans (hb.mono HB0.out.size))
      clear ho hg2 hz hb
      refine hK.out _ _ trivial (fun hHeld => ?_)
      clear hK K
      try simp only [Act.put, List.getElem_toArray, List.getElem_cons_zero, List.getElem_cons_succ, List.setIfInBounds_toArray, List.set_cons_zero, List.set_cons_succ]
      refine wpAnyH_ready (rs := [2]) (by kernel_rfl) (by simp) (AllReadyH.cons rfl (fun K hK => ?_) AllReadyH.nil)
      rw [if_pos (by rfl)]
      obtain ⟨a', c', he, g1, g2', g3, g4⟩ := (HRK.out _ HE2.out).form
      injection he with e1 e2 e3
      subst e1; subst e3; clear e2
      refine wp_appB (.tmp 81) (.tmp 82) rfl wr.heap.size _ ([]) (k) _ _ rfl HO2.out (by rw [HLK.out]; rfl) g1 g4 (by simp only [List.length_nil, List.nil_append, HLK.out, HLN.out]; decide) HE2.out.size ?_
      intro v3 u3 ho hg
      have HO3 : Hid (OwnB wr.heap.size u3 v3 ([] ++ k)) := Lib.hid ho
      have HE3 := Lib.hid (HE2.out.trans (hg.below (fun r hr => HO2.out.base r hr) HE2.out.size))
      clear ho hg g1 g2' g3 g4
      refine hK.out _ _ trivial (fun hHeld => ?_)
      clear hK K
      try simp only [Act.put, List.getElem_toArray, List.getElem_cons_zero, List.getElem_cons_succ, List.setIfInBounds_toArray, List.set_cons_zero, List.set_cons_succ]
      refine wpAnyH_ready (rs := [4]) (by kernel_rfl) (by simp) (AllReadyH.cons rfl (fun K hK => ?_) AllReadyH.nil)
      rw [if_pos (by rfl)]
      obtain ⟨a', c', he, g1, g2', g3, g4⟩ := (HRN.out _ HE3.out).form
      injection he with e1 e2 e3
      subst e1; subst e3; clear e2
      refine wp_appB (.tmp 83) (.tmp 84) rfl wr.heap.size _ ([] ++ k) (n) _ _ rfl HO3.out (by rw [HLN.out]; rfl) g1 g4 (by simp only [List.length_nil, List.nil_append, HLK.out, HLN.out]; decide) HE3.out.size ?_
      intro v4 u4 ho hg
      have HO4 : Hid (OwnB wr.heap.size u4 v4 ([] ++ k ++ n)) := Lib.hid ho
      have HE4 := Lib.hid (HE3.out.trans (hg.below (fun r hr => HO3.out.base r hr) HE3.out.size))
      clear ho hg g1 g2' g3 g4
      refine hK.out _ _ trivial (fun hHeld => ?_)
      clear hK K
      try simp only [Act.put, List.getElem_toArray, List.getElem_cons_zero, List.getElem_cons_succ, List.setIfInBounds_toArray, List.set_cons_zero, List.set_cons_succ]
      rw [List.nil_append] at HO4
      obtain ⟨a4, c4, hv4, -, -⟩ := HO4.out.form
      rw [hv4] at HO4
      subst hv4
      refine wpAnyH_take (i := 5) (v := .slice a4 (k ++ n).length c4) rfl (by kernel_rfl) (by kernel_rfl) (by kernel_rfl) (fun _ _ _ h => h) (Or.inl ⟨by rfl, fun w _ => by go_simp⟩) hHeld ?_
      simp only [Act.put, List.getElem_toArray, List.getElem_cons_zero, List.getElem_cons_succ, List.setIfInBounds_toArray, List.set_cons_zero, List.set_cons_succ]
      refine wpAnyH_done (by kernel_rfl) ?_ _
      have HPL4 : Hid ((k ++ n).length = 44) := Lib.hid (by rw [List.length_append, HLK.out, HLN.out])
      rw [HPL4.out] at HO4 ⊢
      clear HO3 HO2 HE2 HE3 HB0 hHeld HRK HRN
      have hb5 : Below u4.heap.size u4 (u4.alloc (.cells #[.int .u8 0, .int .u8 0, .int .u8 0, .int .u8 0, .int .u8 0, .int .u8 0, .int .u8 ((p : Int) / 256), .int .u8 ((p : Int) % 256)] 5)) := (Below.refl _ _).alloc (Nat.le_refl _) _
      have HRX : Hid (RdV (u4.alloc (.cells #[.int .u8 0, .int .u8 0, .int .u8 0, .int .u8 0, .int .u8 0, .int .u8 0, .int .u8 ((p : Int) / 256), .int .u8 ((p : Int) % 256)] 5)) (.slice (some ⟨u4.heap.size, 0, none⟩) 8 8) (be8 (p : Nat))) := Lib.hid (by
        rw [← be8_small p (by have := HIQ.out; omega)]
        exact (BB.new u4 5 (be8 (p : Nat))).rdv 8 (be8_len _) (by unfold maxLen; omega))
      have HO5 := Lib.hid (HO4.out.below hb5)
      have HE5 := Lib.hid (HE4.out.trans (hb5.mono HE4.out.size))
      clear hb5 HO4 HE4
      have HL52 : Hid ((k ++ n).length + (be8 (p : Nat)).length ≤ 140737488355328) := Lib.hid (by rw [HPL4.out, be8_len]; decide)
      go_wp2_with (obtain ⟨ra, rc, he, r1, r2, r3, r4⟩ := HRX.out.form; injection he with e1 e2 e3; subst e1; subst e3; clear e2; refine wpList_appB rfl (.tmp 86) (.tmp 94) rfl wr.heap.size _ (k ++ n) (be8 (p : Nat)) _ 8 rfl HO5.out (by rw [be8_len]; rfl) r1 r4 HL52.out HE5.out.size ?_; intro v6 u6 ho6 hg6; obtain ⟨P, hP⟩ : ∃ P, k ++ n ++ be8 (p : Nat) = P := ⟨_, rfl⟩; rw [hP] at ho6; have HPP := Lib.hid hP; clear hP; have HO6' := Lib.hid ho6; have HE6' := Lib.hid (HE5.out.trans (hg6.below (fun r hr => HO5.out.base r hr) HE5.out.size)); obtain ⟨a6, c6, hv6, -, -⟩ := ho6.form; subst hv6; clear ho6 hg6 r1 r2 r3 r4)
      have HPL5 : Hid (P.length = 52) := Lib.hid (by rw [← HPP.out, List.length_append, HPL4.out, be8_len])
      rw [HPL5.out] at HO6' ⊢
      have HTC : Hid (tagC k n H (X.take q) = (tagS [116, 97, 103] (P ++ H ++ X.take q)).take 16) := Lib.hid (by rw [← HPP.out, HPL.out]; rfl)
      clear HPP HO5 HE5 HRX HL52
      have HYM : Hid ((X.take q).length = q) := Lib.hid (by rw [List.length_take, HLL.out]; omega)
      have HRH : Hid (∀ W, Below wr.heap.size wr W → RdV W (.slice ah p ch) H) := Lib.hid (fun W hW => HH.out.call (HK0.out.below.trans (hW.mono HK0.out.below.size)))
      have HRY : Hid (∀ W, Below wr.heap.size wr W → RdV W (.slice (some ⟨b, o, none⟩) q c1) (X.take q)) := Lib.hid (fun W hW => (HL0.out.cut q (by omega)).call hW)
      have HML : Hid ((P ++ H ++ X.take q).length ≤ 1152921504606840000) := Lib.hid (by rw [List.length_append, List.length_append, HPL5.out, HYM.out, ← HPL.out]; have := HIQ.out; omega)
      have HL1 : Hid (P.length + H.length ≤ 140737488355328) := Lib.hid (by rw [HPL5.out, ← HPL.out]; have := HIQ.out; omega)
      have HL2 : Hid ((P ++ H).length + (X.take q).length ≤ 140737488355328) := Lib.hid (by rw [List.length_append, HPL5.out, ← HPL.out, HYM.out]; have := HIQ.out; omega)
      obtain ⟨D, hD⟩ : ∃ D, tagS [116, 97, 103] (P ++ H ++ X.take q) = D := ⟨_, rfl⟩
      have HDL : Hid (D.length = 32) := Lib.hid (by rw [← hD, tagS_len])
      have HTG : Hid (∀ W v, Tab W → RdV W v (P ++ H ++ X.take q) → Calls Tryd.prog 20 #[.string ⟨#[116, 97, 103]⟩, v] W fun e w' => e = .returned (.agg (bvA D)) ∧ Below W.heap.size W w') := by
        show ∀ W v, _ → _ → _
        intro W v hTW hv
        obtain ⟨a1, c1, rfl, r1, r2, r3, _⟩ := hv
        rw [← hD]
        exact Tagged_any ⟨#[116, 97, 103]⟩ a1 c1 _ W hTW r1 r2 r3 (by decide) HML.out
      rw [hD] at HTC
      have HSD : Hid ((Tryd.prog.info? 41).map (·.size) = some (bvA D).size) := Lib.hid (by rw [bvA_size, HDL.out]; kernel_rfl)
      have HOD : Hid ((bvA (List.replicate 32 0)).size = (bvA D).size) := Lib.hid (by rw [bvA_size, bvA_size, HDL.out, List.length_replicate])
      have HT0 : Hid (Tab wr) := Lib.hid (HT.out.below HK0.out.below HT.out.lt)
      clear hD
      have i1 : (q : Int) ≤ (c1 : Int) := by have := Hc1M.out; omega
      have i2 : q + 16 ≤ c1 := Hc1M.out
      have i3 : (q : Int) ≤ (q : Int) + 16 := by omega
      have i5 : ¬ c1 = q := by omega
      have i6 : q + 16 - q = 16 := by omega
      go_wp2_with fail
      rename_i K0 hK0
      refine region_writes [96, 97, 98, 99, 100, 101, 102, 103, 20] (fun f W => ∃ g, f 20 = .pointer (some ⟨g, 0, none⟩) ∧ BB W g 41 D ∧ Below wr.heap.size wr W) ?_ ?_
      rotate_left
      · clear hK0 K0
        refine wp_region_held_drew (S := fun _ => True) (by kernel_rfl) trivial (fun hHeld => ?_)
        refine wpAnyH_take (i := 0) (v := .slice a6 52 c6) rfl (by kernel_rfl) (by kernel_rfl) (by kernel_rfl) (fun _ _ _ h => nomatch h.1) (Or.inl ⟨by rfl, fun w _ => by go_simp⟩) hHeld ?_
        simp only [Act.put, List.getElem_toArray, List.getElem_cons_zero, List.getElem_cons_succ, List.setIfInBounds_toArray, List.set_cons_zero, List.set_cons_succ]
        refine wpAnyH_take (i := 1) (v := .slice ah p ch) rfl (by kernel_rfl) (by kernel_rfl) (by kernel_rfl) (fun _ _ _ h => nomatch h.1) (Or.inl ⟨by rfl, fun w _ => by go_simp⟩) hHeld ?_
        simp only [Act.put, List.getElem_toArray, List.getElem_cons_zero, List.getElem_cons_succ, List.setIfInBounds_toArray, List.set_cons_zero, List.set_cons_succ]
        refine wpAnyH_take (i := 3) (v := .slice (some ⟨b, o, none⟩) (q + 16) c1) rfl (by kernel_rfl) (by kernel_rfl) (by kernel_rfl) (fun _ _ _ h => nomatch h.1) (Or.inl ⟨by rfl, fun w _ => by go_simp⟩) hHeld ?_
        simp only [Act.put, List.getElem_toArray, List.getElem_cons_zero, List.getElem_cons_succ, List.setIfInBounds_toArray, List.set_cons_zero, List.set_cons_succ]
        refine wpAnyH_take (i := 4) (v := .int .i64 q) rfl (by kernel_rfl) (by kernel_rfl) (by kernel_rfl) (fun _ _ _ h => nomatch h.1) (Or.inl ⟨by rfl, fun w _ => by go_simp⟩) hHeld ?_
        simp only [Act.put, List.getElem_toArray, List.getElem_cons_zero, List.getElem_cons_succ, List.setIfInBounds_toArray, List.set_cons_zero, List.set_cons_succ]
        refine wpAnyH_take (i := 5) (v := .slice (some ⟨b, o, none⟩) q c1) rfl (by kernel_rfl) (by kernel_rfl) (by kernel_rfl) (fun _ _ _ h => nomatch h.1) (Or.inl ⟨by rfl, fun w _ => by go_simp⟩) hHeld ?_
        simp only [Act.put, List.getElem_toArray, List.getElem_cons_zero, List.getElem_cons_succ, List.setIfInBounds_toArray, List.set_cons_zero, List.set_cons_succ]
        refine wpAnyH_writes [98, 102, 103, 20] (fun L f W => TgK wr P H (X.take q) D (.slice a6 52 c6) L (f 98) (f 102) (f 103) (f 20) W) [2, 6, 7, 8, 9] (by kernel_rfl) (by kernel_rfl) ?_ trivial ?_ ?_
        · exact ⟨HE6'.out.drew, ⟨(fun e => absurd e (by decide)), (fun e => absurd e (by decide)), (fun e => absurd e (by decide))⟩, (fun e => absurd e (by decide)), (fun _ => HO6'.out.drew), (fun e => absurd e (by decide)), (fun e => absurd e (by decide)), (fun e => absurd e (by decide)), (fun e => absurd e (by decide))⟩
        · intro L f W hJ _ hall
          obtain ⟨g, h1, h2, h3, h4, _⟩ := hJ.h8 (hall 8 (by simp))
          rw [hall 9 (by simp)] at h4
          exact ⟨rfl, writes_ex (by kernel_rfl) ⟨g, h1, h4, hJ.below⟩⟩
        refine StepsI.cons [] rfl (by kernel_rfl) ?_ ?_
        · rintro L a' W ⟨f, rfl, hJ⟩ _ hL hd K hK
          simp only [writes, List.foldl_cons, List.foldl_nil, Act.put, List.setIfInBounds_toArray, List.set_cons_zero, List.set_cons_succ]
          rw [if_pos (by rfl)]
          obtain ⟨ra, rc, he, r1, r2, r3, r4⟩ := (HRH.out _ hJ.below).form
          injection he with e1 e2 e3
          subst e1; subst e3
          refine wp_appB (.tmp 96) (.tmp 97) rfl wr.heap.size _ P H ah ch rfl (hJ.a0 hL) (by rw [← HPL.out]; rfl) r1 r4 HL1.out hJ.below.size ?_
          intro v W1 ho hg
          exact hK.out _ _ trivial (writes_ex (by kernel_rfl) (hJ.set2 hL ho hg))
        refine StepsI.cons [2] rfl (by kernel_rfl) ?_ ?_
        · rintro L a' W ⟨f, rfl, hJ⟩ _ hL hd K hK
          simp only [writes, List.foldl_cons, List.foldl_nil, Act.put, List.setIfInBounds_toArray, List.set_cons_zero, List.set_cons_succ]
          rw [if_pos (by rfl)]
          obtain ⟨ra, rc, he, r1, r2, r3, r4⟩ := (HRY.out _ hJ.below).form
          injection he with e1 e2 e3
          subst e1; subst e3
          refine wp_appB (.tmp 98) (.tmp 101) rfl wr.heap.size (f 98) (P ++ H) (X.take q) (some ⟨b, o, none⟩) c1 rfl (hJ.a2 (hd 2 (by simp)) hL) (by rw [HYM.out]; rfl) r1 r4 HL2.out hJ.below.size ?_
          intro v W1 ho hg
          exact hK.out _ _ trivial (writes_ex (by kernel_rfl) (hJ.set6 hL (hd 2 (by simp)) ho hg))
        refine StepsI.cons [6] rfl (by kernel_rfl) ?_ ?_
        · rintro L a' W ⟨f, rfl, hJ⟩ _ hL hd K hK
          have ho := hJ.a6 (hd 6 (by simp)) hL
          simp only [writes, List.foldl_cons, List.foldl_nil, Act.put, List.setIfInBounds_toArray, List.set_cons_zero, List.set_cons_succ]
          go_simp
          refine (HTG.out W (f 102) (HT0.out.below hJ.below HT0.out.lt) ho.rdv).mono ?_
          rintro e W1 ⟨rfl, hb⟩
          have hJ2 := hJ.set7 hL (hd 6 (by simp)) hb
          try go_wp2_with fail
          refine hK.out _ _ trivial ?_
          exact writes_ex (by kernel_rfl) hJ2
        refine StepsI.cons [] rfl (by kernel_rfl) ?_ ?_
        · rintro L a' W ⟨f, rfl, hJ⟩ _ hL hd K hK
          simp only [writes, List.foldl_cons, List.foldl_nil, Act.put, List.setIfInBounds_toArray, List.set_cons_zero, List.set_cons_succ]
          rw [if_pos (by rfl)]
          refine wp_allocA rfl ?_
          intro W1 g hn hge hb
          have h9 : L 9 = false := by
            cases h : L 9
            · rfl
            · exact absurd (hJ.late h) (by rw [hL]; decide)
          exact hK.out _ _ trivial (writes_ex (by kernel_rfl) (hJ.set8 hL h9 hn hge hb))
        refine StepsI.cons [7, 8] rfl (by kernel_rfl) ?_ StepsI.nil
        · rintro L a' W ⟨f, rfl, hJ⟩ _ hL hd K hK
          have hd8 : L 8 = true := hd 8 (by simp)
          have hd7 : L 7 = true := hd 7 (by simp)
          have e7 := hJ.h7 hd7
          refine (hJ.h9 hd8 hL).elim ?_
          intro g hh
          have e8 := hh.1
          have hg1 := hh.2.1
          have hBB := hh.2.2
          simp only [writes, List.foldl_cons, List.foldl_nil, Act.put, List.setIfInBounds_toArray, List.set_cons_zero, List.set_cons_succ]
          rw [if_pos (by rfl)]
          refine wp_storeA 41 (.tmp 20) (.tmp 103) rfl g (bvA D) e8 e7 41 _ hBB HSD.out HOD.out (bvA_one _) ?_
          intro W1 hn hg
          have hJ2 := hJ.put9e e8 hd7 hd8 hg1 hn hg
          exact hK.out _ _ trivial (writes_ex (by kernel_rfl) hJ2)
      rintro f W ⟨gd, e20, hBB, hbW⟩
      have HKW := Lib.hid (HK0.out.call hbW)
      have hL0 := HL0.out.call hbW
      have v1 := RdV.str (w := W.drew) (RdV.tail16 hL0 Hc1M.out)
      skip
      have v2 := RdV.str (w := W.drew) (RdV.head16 hBB HDL.out)
      have HLW := Lib.hid hL0
      have HBW := Lib.hid hbW
      have hst := str_beq (X.drop q) (D.take 16)
      obtain ⟨t1, q1⟩ : ∃ z, (⟨(X.drop q).toArray⟩ : ByteArray) = z := ⟨_, rfl⟩
      obtain ⟨t2, q2⟩ : ∃ z, (⟨(D.take 16).toArray⟩ : ByteArray) = z := ⟨_, rfl⟩
      rw [q1, q2] at hst
      rw [q1] at v1
      rw [q2] at v2
      obtain ⟨bb, hbb⟩ : ∃ bb, (X.drop q == D.take 16) = bb := ⟨_, rfl⟩
      rw [hbb] at hst
      have HOP : Hid (opensC k n H X = bb) := Lib.hid (by
        unfold opensC tagged16
        rw [HLL.out, Nat.add_sub_cancel, HTC.out, hbb, decide_eq_true (by omega), decide_eq_true (by have := HIQ.out; omega)]; rfl)
      clear hBB hbW hL0 q1 q2 hbb
      refine hK0 _ _ ?_
      simp only [writes, List.foldl_cons, List.foldl_nil, Act.put, List.setIfInBounds_toArray, List.set_cons_zero, List.set_cons_succ]
      rw [e20]
      go_wp2_with fail
      go_still (by kernel_rfl)
      have HKD := Lib.hid HKW.out.drew
      clear v1 v2
      go_wp2_with (first
        | (refine wpList_load_row rfl 23 (.tmp 6) rfl w.heap.size rfl _ (bvA k) (0, 0) _ HKD.out.key Tryd.underlying23 rfl HSK.out ?_)
        | (refine wpList_load_row rfl 25 (.tmp 7) rfl (w.heap.size + 1) rfl _ (bvA n) (0, 0) _ HKD.out.nonce Tryd.underlying25 rfl HSN.out ?_))
      refine (Open_any k n HLK.out HLN.out H X ah p ch (some ⟨b, o, none⟩) (q + 16) c1 W.drew (HT.out.below HKD.out.below HT.out.lt) (HH.out.call HKD.out.below) (HLW.out.call (Below.refl _ _).drew) HHL.out).mono ?_
      unfold openX openE
      rw [HOP.out]
      rintro e W9 hA
      have HK9 : Hid (KN w k n W9 ∧ Below wr.heap.size wr W9) := Lib.hid (by
        obtain ⟨v, _, _, hb⟩ := hA
        exact ⟨HKD.out.call hb, (HBW.out.drew).trans (hb.mono HBW.out.drew.size)⟩)
      cases bb
      · rw [if_neg (by decide), if_neg (by decide)] at hA
        obtain ⟨a9, c9, rfl, -, -⟩ := hA.open
        clear hA
        go_wp2_with fail
        go_roundw
        case rel =>
          exact ⟨2, by omega, by go_num, HK9.out.1, fun _ => HBJ.out.trans (HK9.out.2.mono HBJ.out.size)⟩
        case measure => simp [intOf]
      · rw [if_pos rfl, if_pos rfl] at hA
        obtain ⟨a9, c9, rfl, -, -⟩ := hA.open
        clear hA
        generalize (openC k n H X).length = ol at *
        go_wp2_with fail
        go_roundw
        case rel =>
          exact ⟨2, by omega, by go_num, HK9.out.1, fun _ => HBJ.out.trans (HK9.out.2.mono HBJ.out.size)⟩
        case measure => simp [intOf]
    · have cz := (HBJ.out.cell (p := ⟨g, 2, none⟩) HGL.out).trans HD2.out
      obtain ⟨at2, hx, hx2⟩ := and_mask at_ 15 (by decide)
      replace hx : bits .and .i64 at_ 15 = (at2 : Int) := hx
      have HOW := Lib.hid (HO6.out.below HBJ.out)
      obtain ⟨a', c', he, hf, -⟩ := HOW.out.form
      injection he with e1 e2 e3
      subst e1; subst e3
      rcases hf with ⟨_, _, hnil⟩ | ⟨gy, hgy, hge, hlt⟩
      · exfalso; have := HXL.out; rw [hnil] at this; simp at this
      subst hgy
      clear e2
      have HGY : Hid (w3.heap.size ≤ gy) := Lib.hid hge
      have how := HOW.out
      rw [← HXL.out] at how
      have co := how.cellAt (q + at2) (by rw [HXL.out]; omega)
      have fo := how.frozenAt (q + at2)
      have HST : Hid (OwnB w3.heap.size (wr.setCell ⟨gy, q + at2, none⟩ (.int .u8 (((X.getD (q + at2) 0 ^^^ cy).toNat : Nat) : Int))) (.slice (some ⟨gy, 0, none⟩) (q + 16) c5) (X.set (q + at2) (X.getD (q + at2) 0 ^^^ cy))) := Lib.hid (by have h := how.stored (q + at2) (X.getD (q + at2) 0 ^^^ cy); rw [HXL.out] at h; exact h)
      have hgd : X[q + at2]'(by rw [HXL.out]; omega) = X.getD (q + at2) 0 := by rw [List.getD, List.getElem?_eq_getElem (by rw [HXL.out]; omega)]; rfl
      rw [hgd] at co
      have co' : wr.cell? ⟨gy, q + at2, none⟩ = some (.int .u8 ((X.getD (q + at2) 0).toNat : Int)) := co
      have hxy := bv_xor (X.getD (q + at2) 0) cy
      have HBY : Hid (((cy.toNat : Int) == 0) = opensC k n H (X.set (q + at2) (X.getD (q + at2) 0 ^^^ cy))) := Lib.hid (by
        rw [← HXX.out, show q = C.length from HQL.out, opens_changed k n H C (by rw [← HQL.out]; have := HIQ.out; omega) at2 (by omega) cy, Bool.eq_iff_iff, beq_iff_eq, beq_iff_eq]
        constructor
        · intro h
          apply UInt8.toNat_inj.1
          have : cy.toNat = 0 := by omega
          rw [this]; rfl
        · rintro rfl; rfl)
      have HK0' := Lib.hid (HK0.out.setG (g := gy) (by have := HGY.out; have := HW3.out; omega) (q + at2) (.int .u8 (((X.getD (q + at2) 0 ^^^ cy).toNat : Nat) : Int)))
      have iw1 : IntKind.i64.wrap ((q : Int) + (at2 : Int)) = (q : Int) + (at2 : Int) := IntWalk.i64_in _ (by omega)
      have iw2 : (q : Int) + (at2 : Int) < (q : Int) + 16 := by omega
      have iw3 : (0 : Int) ≤ (q : Int) + (at2 : Int) := by omega
      have iw4 : ((q : Int) + (at2 : Int)).toNat = q + at2 := by omega
      clear co hgd how hge hlt HOW
      generalize X.getD (q + at2) 0 ^^^ cy = zz at *
      generalize X.getD (q + at2) 0 = xx at *
      obtain ⟨X', hX'⟩ : ∃ X', X.set (q + at2) zz = X' := ⟨_, rfl⟩
      rw [hX'] at HST HBY
      obtain ⟨w7, hw7⟩ : ∃ w7, wr.setCell ⟨gy, q + at2, none⟩ (.int .u8 ((zz.toNat : Nat) : Int)) = w7 := ⟨_, rfl⟩
      rw [hw7] at HST HK0'
      replace HK0 := HK0'
      have HL0 := Lib.hid HST.out.rdv
      have HW7 := Lib.hid hw7
      clear HK0' HST hX' hw7
      have HLL : Hid (X'.length = q + 16) := Lib.hid HL0.out.len.symm
      have f0 : IntKind.i64.wrap (((q + 16 : Nat) : Int) - 16) = (q : Int) := by rw [IntWalk.i64_in _ (by have := HIQ.out; omega)]; omega
      have f0' : IntKind.i64.wrap (q : Int) = (q : Int) := IntWalk.i64_in _ (by have := HIQ.out; omega)
      have f5 : decide ((0 : Int) ≤ (q : Int)) = true := decide_eq_true (by omega)
      skip
      have hcl := HL0.out.caps
      have Hc5M : Hid (q + 16 ≤ c5) := Lib.hid hcl
      clear hcl
      go_wp2_with fail
      rw [HW7.out]
      have HB0 : Hid (Below w7.heap.size w7 w7.drew) := (Below.refl _ _).drew
      have HRK : Hid (∀ W, Below w7.heap.size w7 W → RdV W (.slice (some ⟨w.heap.size, 0, none⟩) 32 32) k) := Lib.hid (fun W hW => (HK0.out.key.rdv 32 HLK.out (by unfold maxLen; omega)).call hW)
      have HRN : Hid (∀ W, Below w7.heap.size w7 W → RdV W (.slice (some ⟨w.heap.size + 1, 0, none⟩) 12 12) n) := Lib.hid (fun W hW => (HK0.out.nonce.rdv 12 HLN.out (by unfold maxLen; omega)).call hW)
      refine wp_region_held_drew (S := fun _ => True) (by kernel_rfl) trivial (fun hHeld => ?_)
      refine wpAnyH_take (i := 1) (v := .slice (some ⟨w.heap.size, 0, none⟩) 32 32) rfl (by kernel_rfl) (by kernel_rfl) (by kernel_rfl) (fun _ _ _ h => h) (Or.inl ⟨by rfl, fun w _ => by go_simp⟩) hHeld ?_
      simp only [Act.put, List.getElem_toArray, List.getElem_cons_zero, List.getElem_cons_succ, List.setIfInBounds_toArray, List.set_cons_zero, List.set_cons_succ]
      refine wpAnyH_take (i := 3) (v := .slice (some ⟨w.heap.size + 1, 0, none⟩) 12 12) rfl (by kernel_rfl) (by kernel_rfl) (by kernel_rfl) (fun _ _ _ h => h) (Or.inl ⟨by rfl, fun w _ => by go_simp⟩) hHeld ?_
      simp only [Act.put, List.getElem_toArray, List.getElem_cons_zero, List.getElem_cons_succ, List.setIfInBounds_toArray, List.set_cons_zero, List.set_cons_succ]
      refine wpAnyH_ready (rs := [0]) (by kernel_rfl) (by simp) (AllReadyH.cons rfl (fun K hK => ?_) AllReadyH.nil)
      rw [if_pos (by rfl)]
      refine wp_nilB0 rfl ?_
      intro u2 g2 ho hg2 hz hb
      have HO2 : Hid (OwnB w7.heap.size u2 (.slice (some ⟨g2, 0, none⟩) 0 0) []) := Lib.hid (ho.mono HB0.out.size)
      have HE2 := Lib.hid (HB0.out.trans (hb.mono HB0.out.size))
      clear ho hg2 hz hb
      refine hK.out _ _ trivial (fun hHeld => ?_)
      clear hK K
      try simp only [Act.put, List.getElem_toArray, List.getElem_cons_zero, List.getElem_cons_succ, List.setIfInBounds_toArray, List.set_cons_zero, List.set_cons_succ]
      refine wpAnyH_ready (rs := [2]) (by kernel_rfl) (by simp) (AllReadyH.cons rfl (fun K hK => ?_) AllReadyH.nil)
      rw [if_pos (by rfl)]
      obtain ⟨a', c', he, g1, g2', g3, g4⟩ := (HRK.out _ HE2.out).form
      injection he with e1 e2 e3
      subst e1; subst e3; clear e2
      refine wp_appB (.tmp 81) (.tmp 82) rfl w7.heap.size _ ([]) (k) _ _ rfl HO2.out (by rw [HLK.out]; rfl) g1 g4 (by simp only [List.length_nil, List.nil_append, HLK.out, HLN.out]; decide) HE2.out.size ?_
      intro v3 u3 ho hg
      have HO3 : Hid (OwnB w7.heap.size u3 v3 ([] ++ k)) := Lib.hid ho
      have HE3 := Lib.hid (HE2.out.trans (hg.below (fun r hr => HO2.out.base r hr) HE2.out.size))
      clear ho hg g1 g2' g3 g4
      refine hK.out _ _ trivial (fun hHeld => ?_)
      clear hK K
      try simp only [Act.put, List.getElem_toArray, List.getElem_cons_zero, List.getElem_cons_succ, List.setIfInBounds_toArray, List.set_cons_zero, List.set_cons_succ]
      refine wpAnyH_ready (rs := [4]) (by kernel_rfl) (by simp) (AllReadyH.cons rfl (fun K hK => ?_) AllReadyH.nil)
      rw [if_pos (by rfl)]
      obtain ⟨a', c', he, g1, g2', g3, g4⟩ := (HRN.out _ HE3.out).form
      injection he with e1 e2 e3
      subst e1; subst e3; clear e2
      refine wp_appB (.tmp 83) (.tmp 84) rfl w7.heap.size _ ([] ++ k) (n) _ _ rfl HO3.out (by rw [HLN.out]; rfl) g1 g4 (by simp only [List.length_nil, List.nil_append, HLK.out, HLN.out]; decide) HE3.out.size ?_
      intro v4 u4 ho hg
      have HO4 : Hid (OwnB w7.heap.size u4 v4 ([] ++ k ++ n)) := Lib.hid ho
      have HE4 := Lib.hid (HE3.out.trans (hg.below (fun r hr => HO3.out.base r hr) HE3.out.size))
      clear ho hg g1 g2' g3 g4
      refine hK.out _ _ trivial (fun hHeld => ?_)
      clear hK K
      try simp only [Act.put, List.getElem_toArray, List.getElem_cons_zero, List.getElem_cons_succ, List.setIfInBounds_toArray, List.set_cons_zero, List.set_cons_succ]
      rw [List.nil_append] at HO4
      obtain ⟨a4, c4, hv4, -, -⟩ := HO4.out.form
      rw [hv4] at HO4
      subst hv4
      refine wpAnyH_take (i := 5) (v := .slice a4 (k ++ n).length c4) rfl (by kernel_rfl) (by kernel_rfl) (by kernel_rfl) (fun _ _ _ h => h) (Or.inl ⟨by rfl, fun w _ => by go_simp⟩) hHeld ?_
      simp only [Act.put, List.getElem_toArray, List.getElem_cons_zero, List.getElem_cons_succ, List.setIfInBounds_toArray, List.set_cons_zero, List.set_cons_succ]
      refine wpAnyH_done (by kernel_rfl) ?_ _
      have HPL4 : Hid ((k ++ n).length = 44) := Lib.hid (by rw [List.length_append, HLK.out, HLN.out])
      rw [HPL4.out] at HO4 ⊢
      clear HO3 HO2 HE2 HE3 HB0 hHeld HRK HRN
      have hb5 : Below u4.heap.size u4 (u4.alloc (.cells #[.int .u8 0, .int .u8 0, .int .u8 0, .int .u8 0, .int .u8 0, .int .u8 0, .int .u8 ((p : Int) / 256), .int .u8 ((p : Int) % 256)] 5)) := (Below.refl _ _).alloc (Nat.le_refl _) _
      have HRX : Hid (RdV (u4.alloc (.cells #[.int .u8 0, .int .u8 0, .int .u8 0, .int .u8 0, .int .u8 0, .int .u8 0, .int .u8 ((p : Int) / 256), .int .u8 ((p : Int) % 256)] 5)) (.slice (some ⟨u4.heap.size, 0, none⟩) 8 8) (be8 (p : Nat))) := Lib.hid (by
        rw [← be8_small p (by have := HIQ.out; omega)]
        exact (BB.new u4 5 (be8 (p : Nat))).rdv 8 (be8_len _) (by unfold maxLen; omega))
      have HO5 := Lib.hid (HO4.out.below hb5)
      have HE5 := Lib.hid (HE4.out.trans (hb5.mono HE4.out.size))
      clear hb5 HO4 HE4
      have HL52 : Hid ((k ++ n).length + (be8 (p : Nat)).length ≤ 140737488355328) := Lib.hid (by rw [HPL4.out, be8_len]; decide)
      go_wp2_with (obtain ⟨ra, rc, he, r1, r2, r3, r4⟩ := HRX.out.form; injection he with e1 e2 e3; subst e1; subst e3; clear e2; refine wpList_appB rfl (.tmp 86) (.tmp 94) rfl w7.heap.size _ (k ++ n) (be8 (p : Nat)) _ 8 rfl HO5.out (by rw [be8_len]; rfl) r1 r4 HL52.out HE5.out.size ?_; intro v6 u6 ho6 hg6; obtain ⟨P, hP⟩ : ∃ P, k ++ n ++ be8 (p : Nat) = P := ⟨_, rfl⟩; rw [hP] at ho6; have HPP := Lib.hid hP; clear hP; have HO6' := Lib.hid ho6; have HE6' := Lib.hid (HE5.out.trans (hg6.below (fun r hr => HO5.out.base r hr) HE5.out.size)); obtain ⟨a6, c6, hv6, -, -⟩ := ho6.form; subst hv6; clear ho6 hg6 r1 r2 r3 r4)
      have HPL5 : Hid (P.length = 52) := Lib.hid (by rw [← HPP.out, List.length_append, HPL4.out, be8_len])
      rw [HPL5.out] at HO6' ⊢
      have HTC : Hid (tagC k n H (X'.take q) = (tagS [116, 97, 103] (P ++ H ++ X'.take q)).take 16) := Lib.hid (by rw [← HPP.out, HPL.out]; rfl)
      clear HPP HO5 HE5 HRX HL52
      have HYM : Hid ((X'.take q).length = q) := Lib.hid (by rw [List.length_take, HLL.out]; omega)
      have HRH : Hid (∀ W, Below w7.heap.size w7 W → RdV W (.slice ah p ch) H) := Lib.hid (fun W hW => HH.out.call (HK0.out.below.trans (hW.mono HK0.out.below.size)))
      have HRY : Hid (∀ W, Below w7.heap.size w7 W → RdV W (.slice (some ⟨gy, 0, none⟩) q c5) (X'.take q)) := Lib.hid (fun W hW => (HL0.out.cut q (by omega)).call hW)
      have HML : Hid ((P ++ H ++ X'.take q).length ≤ 1152921504606840000) := Lib.hid (by rw [List.length_append, List.length_append, HPL5.out, HYM.out, ← HPL.out]; have := HIQ.out; omega)
      have HL1 : Hid (P.length + H.length ≤ 140737488355328) := Lib.hid (by rw [HPL5.out, ← HPL.out]; have := HIQ.out; omega)
      have HL2 : Hid ((P ++ H).length + (X'.take q).length ≤ 140737488355328) := Lib.hid (by rw [List.length_append, HPL5.out, ← HPL.out, HYM.out]; have := HIQ.out; omega)
      obtain ⟨D, hD⟩ : ∃ D, tagS [116, 97, 103] (P ++ H ++ X'.take q) = D := ⟨_, rfl⟩
      have HDL : Hid (D.length = 32) := Lib.hid (by rw [← hD, tagS_len])
      have HTG : Hid (∀ W v, Tab W → RdV W v (P ++ H ++ X'.take q) → Calls Tryd.prog 20 #[.string ⟨#[116, 97, 103]⟩, v] W fun e w' => e = .returned (.agg (bvA D)) ∧ Below W.heap.size W w') := by
        show ∀ W v, _ → _ → _
        intro W v hTW hv
        obtain ⟨a1, c1, rfl, r1, r2, r3, _⟩ := hv
        rw [← hD]
        exact Tagged_any ⟨#[116, 97, 103]⟩ a1 c1 _ W hTW r1 r2 r3 (by decide) HML.out
      rw [hD] at HTC
      have HSD : Hid ((Tryd.prog.info? 41).map (·.size) = some (bvA D).size) := Lib.hid (by rw [bvA_size, HDL.out]; kernel_rfl)
      have HOD : Hid ((bvA (List.replicate 32 0)).size = (bvA D).size) := Lib.hid (by rw [bvA_size, bvA_size, HDL.out, List.length_replicate])
      have HT0 : Hid (Tab w7) := Lib.hid (HT.out.below HK0.out.below HT.out.lt)
      clear hD
      have i1 : (q : Int) ≤ (c5 : Int) := by have := Hc5M.out; omega
      have i2 : q + 16 ≤ c5 := Hc5M.out
      have i3 : (q : Int) ≤ (q : Int) + 16 := by omega
      have i5 : ¬ c5 = q := by omega
      have i6 : q + 16 - q = 16 := by omega
      go_wp2_with fail
      rename_i K0 hK0
      refine region_writes [96, 97, 98, 99, 100, 101, 102, 103, 20] (fun f W => ∃ g, f 20 = .pointer (some ⟨g, 0, none⟩) ∧ BB W g 41 D ∧ Below w7.heap.size w7 W) ?_ ?_
      rotate_left
      · clear hK0 K0
        refine wp_region_held_drew (S := fun _ => True) (by kernel_rfl) trivial (fun hHeld => ?_)
        refine wpAnyH_take (i := 0) (v := .slice a6 52 c6) rfl (by kernel_rfl) (by kernel_rfl) (by kernel_rfl) (fun _ _ _ h => nomatch h.1) (Or.inl ⟨by rfl, fun w _ => by go_simp⟩) hHeld ?_
        simp only [Act.put, List.getElem_toArray, List.getElem_cons_zero, List.getElem_cons_succ, List.setIfInBounds_toArray, List.set_cons_zero, List.set_cons_succ]
        refine wpAnyH_take (i := 1) (v := .slice ah p ch) rfl (by kernel_rfl) (by kernel_rfl) (by kernel_rfl) (fun _ _ _ h => nomatch h.1) (Or.inl ⟨by rfl, fun w _ => by go_simp⟩) hHeld ?_
        simp only [Act.put, List.getElem_toArray, List.getElem_cons_zero, List.getElem_cons_succ, List.setIfInBounds_toArray, List.set_cons_zero, List.set_cons_succ]
        refine wpAnyH_take (i := 3) (v := .slice (some ⟨gy, 0, none⟩) (q + 16) c5) rfl (by kernel_rfl) (by kernel_rfl) (by kernel_rfl) (fun _ _ _ h => nomatch h.1) (Or.inl ⟨by rfl, fun w _ => by go_simp⟩) hHeld ?_
        simp only [Act.put, List.getElem_toArray, List.getElem_cons_zero, List.getElem_cons_succ, List.setIfInBounds_toArray, List.set_cons_zero, List.set_cons_succ]
        refine wpAnyH_take (i := 4) (v := .int .i64 q) rfl (by kernel_rfl) (by kernel_rfl) (by kernel_rfl) (fun _ _ _ h => nomatch h.1) (Or.inl ⟨by rfl, fun w _ => by go_simp⟩) hHeld ?_
        simp only [Act.put, List.getElem_toArray, List.getElem_cons_zero, List.getElem_cons_succ, List.setIfInBounds_toArray, List.set_cons_zero, List.set_cons_succ]
        refine wpAnyH_take (i := 5) (v := .slice (some ⟨gy, 0, none⟩) q c5) rfl (by kernel_rfl) (by kernel_rfl) (by kernel_rfl) (fun _ _ _ h => nomatch h.1) (Or.inl ⟨by rfl, fun w _ => by go_simp⟩) hHeld ?_
        simp only [Act.put, List.getElem_toArray, List.getElem_cons_zero, List.getElem_cons_succ, List.setIfInBounds_toArray, List.set_cons_zero, List.set_cons_succ]
        refine wpAnyH_writes [98, 102, 103, 20] (fun L f W => TgK w7 P H (X'.take q) D (.slice a6 52 c6) L (f 98) (f 102) (f 103) (f 20) W) [2, 6, 7, 8, 9] (by kernel_rfl) (by kernel_rfl) ?_ trivial ?_ ?_
        · exact ⟨HE6'.out.drew, ⟨(fun e => absurd e (by decide)), (fun e => absurd e (by decide)), (fun e => absurd e (by decide))⟩, (fun e => absurd e (by decide)), (fun _ => HO6'.out.drew), (fun e => absurd e (by decide)), (fun e => absurd e (by decide)), (fun e => absurd e (by decide)), (fun e => absurd e (by decide))⟩
        · intro L f W hJ _ hall
          obtain ⟨g, h1, h2, h3, h4, _⟩ := hJ.h8 (hall 8 (by simp))
          rw [hall 9 (by simp)] at h4
          exact ⟨rfl, writes_ex (by kernel_rfl) ⟨g, h1, h4, hJ.below⟩⟩
        refine StepsI.cons [] rfl (by kernel_rfl) ?_ ?_
        · rintro L a' W ⟨f, rfl, hJ⟩ _ hL hd K hK
          simp only [writes, List.foldl_cons, List.foldl_nil, Act.put, List.setIfInBounds_toArray, List.set_cons_zero, List.set_cons_succ]
          rw [if_pos (by rfl)]
          obtain ⟨ra, rc, he, r1, r2, r3, r4⟩ := (HRH.out _ hJ.below).form
          injection he with e1 e2 e3
          subst e1; subst e3
          refine wp_appB (.tmp 96) (.tmp 97) rfl w7.heap.size _ P H ah ch rfl (hJ.a0 hL) (by rw [← HPL.out]; rfl) r1 r4 HL1.out hJ.below.size ?_
          intro v W1 ho hg
          exact hK.out _ _ trivial (writes_ex (by kernel_rfl) (hJ.set2 hL ho hg))
        refine StepsI.cons [2] rfl (by kernel_rfl) ?_ ?_
        · rintro L a' W ⟨f, rfl, hJ⟩ _ hL hd K hK
          simp only [writes, List.foldl_cons, List.foldl_nil, Act.put, List.setIfInBounds_toArray, List.set_cons_zero, List.set_cons_succ]
          rw [if_pos (by rfl)]
          obtain ⟨ra, rc, he, r1, r2, r3, r4⟩ := (HRY.out _ hJ.below).form
          injection he with e1 e2 e3
          subst e1; subst e3
          refine wp_appB (.tmp 98) (.tmp 101) rfl w7.heap.size (f 98) (P ++ H) (X'.take q) (some ⟨gy, 0, none⟩) c5 rfl (hJ.a2 (hd 2 (by simp)) hL) (by rw [HYM.out]; rfl) r1 r4 HL2.out hJ.below.size ?_
          intro v W1 ho hg
          exact hK.out _ _ trivial (writes_ex (by kernel_rfl) (hJ.set6 hL (hd 2 (by simp)) ho hg))
        refine StepsI.cons [6] rfl (by kernel_rfl) ?_ ?_
        · rintro L a' W ⟨f, rfl, hJ⟩ _ hL hd K hK
          have ho := hJ.a6 (hd 6 (by simp)) hL
          simp only [writes, List.foldl_cons, List.foldl_nil, Act.put, List.setIfInBounds_toArray, List.set_cons_zero, List.set_cons_succ]
          go_simp
          refine (HTG.out W (f 102) (HT0.out.below hJ.below HT0.out.lt) ho.rdv).mono ?_
          rintro e W1 ⟨rfl, hb⟩
          have hJ2 := hJ.set7 hL (hd 6 (by simp)) hb
          try go_wp2_with fail
          refine hK.out _ _ trivial ?_
          exact writes_ex (by kernel_rfl) hJ2
        refine StepsI.cons [] rfl (by kernel_rfl) ?_ ?_
        · rintro L a' W ⟨f, rfl, hJ⟩ _ hL hd K hK
          simp only [writes, List.foldl_cons, List.foldl_nil, Act.put, List.setIfInBounds_toArray, List.set_cons_zero, List.set_cons_succ]
          rw [if_pos (by rfl)]
          refine wp_allocA rfl ?_
          intro W1 g hn hge hb
          have h9 : L 9 = false := by
            cases h : L 9
            · rfl
            · exact absurd (hJ.late h) (by rw [hL]; decide)
          exact hK.out _ _ trivial (writes_ex (by kernel_rfl) (hJ.set8 hL h9 hn hge hb))
        refine StepsI.cons [7, 8] rfl (by kernel_rfl) ?_ StepsI.nil
        · rintro L a' W ⟨f, rfl, hJ⟩ _ hL hd K hK
          have hd8 : L 8 = true := hd 8 (by simp)
          have hd7 : L 7 = true := hd 7 (by simp)
          have e7 := hJ.h7 hd7
          refine (hJ.h9 hd8 hL).elim ?_
          intro g hh
          have e8 := hh.1
          have hg1 := hh.2.1
          have hBB := hh.2.2
          simp only [writes, List.foldl_cons, List.foldl_nil, Act.put, List.setIfInBounds_toArray, List.set_cons_zero, List.set_cons_succ]
          rw [if_pos (by rfl)]
          refine wp_storeA 41 (.tmp 20) (.tmp 103) rfl g (bvA D) e8 e7 41 _ hBB HSD.out HOD.out (bvA_one _) ?_
          intro W1 hn hg
          have hJ2 := hJ.put9e e8 hd7 hd8 hg1 hn hg
          exact hK.out _ _ trivial (writes_ex (by kernel_rfl) hJ2)
      rintro f W ⟨gd, e20, hBB, hbW⟩
      have HKW := Lib.hid (HK0.out.call hbW)
      have hL0 := HL0.out.call hbW
      have v1 := RdV.str (w := W.drew) (RdV.tail16 hL0 Hc5M.out)
      rw [Nat.zero_add] at v1
      have v2 := RdV.str (w := W.drew) (RdV.head16 hBB HDL.out)
      have HLW := Lib.hid hL0
      have HBW := Lib.hid hbW
      have hst := str_beq (X'.drop q) (D.take 16)
      obtain ⟨t1, q1⟩ : ∃ z, (⟨(X'.drop q).toArray⟩ : ByteArray) = z := ⟨_, rfl⟩
      obtain ⟨t2, q2⟩ : ∃ z, (⟨(D.take 16).toArray⟩ : ByteArray) = z := ⟨_, rfl⟩
      rw [q1, q2] at hst
      rw [q1] at v1
      rw [q2] at v2
      obtain ⟨bb, hbb⟩ : ∃ bb, (X'.drop q == D.take 16) = bb := ⟨_, rfl⟩
      rw [hbb] at hst
      have HOP : Hid (opensC k n H X' = bb) := Lib.hid (by
        unfold opensC tagged16
        rw [HLL.out, Nat.add_sub_cancel, HTC.out, hbb, decide_eq_true (by omega), decide_eq_true (by have := HIQ.out; omega)]; rfl)
      clear hBB hbW hL0 q1 q2 hbb
      refine hK0 _ _ ?_
      simp only [writes, List.foldl_cons, List.foldl_nil, Act.put, List.setIfInBounds_toArray, List.set_cons_zero, List.set_cons_succ]
      rw [e20]
      go_wp2_with fail
      go_still (by kernel_rfl)
      have HKD := Lib.hid HKW.out.drew
      clear v1 v2
      go_wp2_with (first
        | (refine wpList_load_row rfl 23 (.tmp 6) rfl w.heap.size rfl _ (bvA k) (0, 0) _ HKD.out.key Tryd.underlying23 rfl HSK.out ?_)
        | (refine wpList_load_row rfl 25 (.tmp 7) rfl (w.heap.size + 1) rfl _ (bvA n) (0, 0) _ HKD.out.nonce Tryd.underlying25 rfl HSN.out ?_))
      refine (Open_any k n HLK.out HLN.out H X' ah p ch (some ⟨gy, 0, none⟩) (q + 16) c5 W.drew (HT.out.below HKD.out.below HT.out.lt) (HH.out.call HKD.out.below) (HLW.out.call (Below.refl _ _).drew) HHL.out).mono ?_
      unfold openX openE
      rw [HOP.out]
      rintro e W9 hA
      have HK9 : Hid (KN w k n W9 ∧ Below w7.heap.size w7 W9) := Lib.hid (by
        obtain ⟨v, _, _, hb⟩ := hA
        exact ⟨HKD.out.call hb, (HBW.out.drew).trans (hb.mono HBW.out.drew.size)⟩)
      have fby := HBY.out
      rw [HOP.out] at fby
      cases bb
      · rw [if_neg (by decide), if_neg (by decide)] at hA
        obtain ⟨a9, c9, rfl, -, -⟩ := hA.open
        clear hA
        go_wp2_with fail
        go_roundw
        case rel =>
          exact ⟨3, by omega, by go_num, HK9.out.1, fun h => absurd h (by omega)⟩
        case measure => simp [intOf]
      · rw [if_pos rfl, if_pos rfl] at hA
        obtain ⟨a9, c9, rfl, -, -⟩ := hA.open
        clear hA
        generalize (openC k n H X').length = ol at *
        go_wp2_with fail
        go_roundw
        case rel =>
          exact ⟨3, by omega, by go_num, HK9.out.1, fun h => absurd h (by omega)⟩
        case measure => simp [intOf]
end Go.Proofs.YtcibbghggfklbaaDoor
