/-
  The chapter's examples: sane of chartroomlaw08.
-/
import Derived.Test.YtecojpkefobgpaaGreatDoorHn
namespace Go.Proofs.YtecojpkefobgpaaGreatDoor
open Go.RowKit
set_option linter.unusedVariables false
set_option linter.unusedSimpArgs false

/-- What a walk knows: only new blocks have turned; slices of shares that can be read. -/
structure SnB (w W : World) (rs : List (Option Addr × List Sh)) : Prop where
  below : Below w.heap.size w W
  rd : ∀ p ∈ rs, RdS W.heap.size W p.1 p.2
theorem SnB.start (w : World) : SnB w w [] := ⟨Below.refl _ _, fun _ h => by cases h⟩
theorem SnB.call {w W W' : World} {rs : List (Option Addr × List Sh)} (h : SnB w W rs) (hb : Below W.heap.size W W') : SnB w W' rs :=
  ⟨h.below.trans (hb.mono h.below.size), fun p hp => (h.rd p hp).call hb⟩
theorem SnB.add {w W : World} {rs : List (Option Addr × List Sh)} (h : SnB w W rs) {a : Option Addr} {l : List Sh} (hr : RdS W.heap.size W a l) : SnB w W ((a, l) :: rs) :=
  ⟨h.below, fun p hp => by
    rcases List.mem_cons.1 hp with rfl | hp
    · exact hr
    · exact h.rd p hp⟩
theorem SnB.get {w W : World} {rs : List (Option Addr × List Sh)} (h : SnB w W rs) (a : Option Addr) (l : List Sh) (hm : (a, l) ∈ rs) : RdS W.heap.size W a l := h.rd _ hm
theorem SnB.drewN {w W : World} {rs : List (Option Addr × List Sh)} (h : SnB w W rs) (n : Nat) : SnB w (W.drewN n) rs := h.call (below_dNk (Below.refl _ _) n)
/-- A slice of shares that has just been built. -/
theorem RdS.made {w : World} (l : List Sh) (hl : l.length ≤ 1000) (h0 : l ≠ []) : RdS (w.alloc (.cells (shs l).toArray 40)).heap.size (w.alloc (.cells (shs l).toArray 40)) (some ⟨w.heap.size, 0, none⟩) l := by
  refine ⟨by unfold maxLen; omega, .inr ⟨w.heap.size, 0, rfl, by simp, fun j hj => ?_⟩⟩
  obtain ⟨h1, h2⟩ := shs_at l j hj
  have hn := heap_alloc_new w (.cells (shs l).toArray 40)
  rw [Nat.zero_add]
  constructor
  · rw [cell_of_row _ w.heap.size (j * 2) _ _ (0, 0) hn]; simpa using h1
  · rw [cell_of_row _ w.heap.size (j * 2 + 1) _ _ (0, 0) hn]; simpa using h2

theorem OwnS.formN {B : Nat} {w : World} {v : Value} {l : List Sh} (h : OwnS B w v l) (n : Nat) (hn : l.length = n) : ∃ a cap, v = .slice a n cap ∧ n ≤ cap ∧ cap ≤ maxLen ∧ (a = none → cap = 0) ∧ RdS w.heap.size w a l := by
  subst hn; exact h.form
def two8 : List Sh := [(1, 9), (2, 11)]
def three8 : List Sh := [(1, 9), (2, 11), (3, 13)]
def odd8 : List Sh := [(1, 9), (2, 11), (3, 14)]
def one8 : List Sh := [(1, 7), (2, 7), (3, 7)]
def sum8 : List Sh := [(1, 18), (2, 22)]
def five8 : List Sh := [(64, 5)]
theorem two8_ok : okS two8 = true := by decide +kernel
theorem three8_ok : okS three8 = true := by decide +kernel
theorem odd8_ok : okS odd8 = true := by decide +kernel
theorem sum8_ok : okS sum8 = true := by decide +kernel
theorem five8_ok : okS five8 = true := by decide +kernel
theorem two8_thr (x : Nat) (hx : x < 2305843009213688669) : thrS two8 x = evQ x [7, 2] := thr_on hx (okS_out two8_ok).2.2 (by decide) (by unfold On; decide +kernel)
theorem two8_join : joinV two8 = 7 ∧ errV two8 = 0 := ⟨by rw [joinV_ok two8_ok, two8_thr 0 (by decide)]; decide +kernel, errV_ok two8_ok⟩
theorem three8_fit : fitB three8 2 = true ∧ fitE three8 2 = 0 := by
  have h := fitB_ok (N := 2) three8_ok (by decide) (by decide)
  exact ⟨h.1.trans (fit_on (c := [7, 2]) (okS_out three8_ok).2.2 (by decide) (by unfold On; decide +kernel)), h.2⟩
theorem odd8_fit : fitB odd8 2 = false ∧ fitE odd8 2 = 0 := by
  have h := fitB_ok (N := 2) odd8_ok (by decide) (by decide)
  refine ⟨h.1.trans ?_, h.2⟩
  show ([((3 : Int), (14 : Int))].all fun s => (thrS two8 s.1.toNat : Int) == s.2) = false
  have e : (3 : Int).toNat = 3 := rfl
  rw [List.all_cons, List.all_nil, Bool.and_true, e, two8_thr 3 (by decide)]
  decide +kernel
theorem sum8_is : sumE two8 two8 = 0 ∧ sumL two8 two8 = sum8 := by decide +kernel
theorem sum8_join : joinV sum8 = 14 ∧ errV sum8 = 0 := ⟨by rw [joinV_ok sum8_ok, thr_on (c := [14, 4]) (by decide) (okS_out sum8_ok).2.2 (by decide) (by unfold On; decide +kernel)]; decide +kernel, errV_ok sum8_ok⟩
theorem five8_join : joinV five8 = 5 ∧ errV five8 = 0 := ⟨by rw [joinV_ok five8_ok, thr_on (c := [5]) (by decide) (okS_out five8_ok).2.2 (by decide) (by unfold On; decide +kernel)]; decide +kernel, errV_ok five8_ok⟩
theorem one8_is (K : List UInt8) : splE 7 1 3 = 0 ∧ splL K 7 1 3 = one8 := by
  have e : splE 7 1 3 = 0 := by decide +kernel
  refine ⟨e, ?_⟩
  rw [splL_ok e]
  show splTo [7] 3 = one8
  decide +kernel
theorem neg8_is (K : List UInt8) : splE (-1) 0 0 = 1 ∧ splL K (-1) 0 0 = [] := by
  have e : splE (-1) 0 0 = 1 := by decide +kernel
  exact ⟨e, splL_no (by rw [e]; decide)⟩
theorem bad8_is (K : List UInt8) : splE 0 2 1 = 80 ∧ splL K 0 2 1 = [] := by
  have e : splE 0 2 1 = 80 := by decide +kernel
  exact ⟨e, splL_no (by rw [e]; decide)⟩
theorem zeroK_len : (List.replicate 32 (0 : UInt8)).length = 32 := by decide

set_option maxRecDepth 100000 in
set_option maxHeartbeats 8000000 in
theorem sane8_any (w : World) (hT : Tab w) :
    Calls Tryz.prog 5 #[] w fun e w' => e = .returned (.bool true) ∧ Below w.heap.size w w' := by
  have HT := Lib.hid hT
  clear hT
  have HKJ2 : Hid (∀ a W, RdS W.heap.size W a two8 → Calls Tryz.prog 9 #[.slice a 2 2] W fun e w' => e = .returned (.tuple #[.int .i64 7, .int .i64 0]) ∧ Below W.heap.size W w') := Lib.hid (fun a W h => by
    have k := Join_any a 2 two8 W h
    rw [two8_join.1, two8_join.2] at k
    exact k)
  have HKF3 : Hid (∀ a cap W, 3 ≤ cap → cap ≤ maxLen → RdS W.heap.size W a three8 → Calls Tryz.prog 14 #[.slice a 3 cap, .int .i64 2] W fun e w' => e = .returned (.tuple #[.bool true, .int .i64 0]) ∧ Below W.heap.size W w') := Lib.hid (fun a cap W h1 h2 h => by
    have k := Fits_any a cap three8 2 W h h1 h2
    rw [three8_fit.1, three8_fit.2] at k
    exact k)
  have HKFO : Hid (∀ a cap W, 3 ≤ cap → cap ≤ maxLen → RdS W.heap.size W a odd8 → Calls Tryz.prog 14 #[.slice a 3 cap, .int .i64 2] W fun e w' => e = .returned (.tuple #[.bool false, .int .i64 0]) ∧ Below W.heap.size W w') := Lib.hid (fun a cap W h1 h2 h => by
    have k := Fits_any a cap odd8 2 W h h1 h2
    rw [odd8_fit.1, odd8_fit.2] at k
    exact k)
  have HKS : Hid (∀ a W, RdS W.heap.size W a two8 → Calls Tryz.prog 16 #[.slice a 2 2, .slice a 2 2] W fun e w' => ∃ v, e = .returned (.tuple #[v, .int .i64 0]) ∧ OwnS W.heap.size w' v sum8 ∧ Below W.heap.size W w') := Lib.hid (fun a W h => by
    have k := Sum_any a 2 two8 a 2 two8 W h h
    rw [sum8_is.1, sum8_is.2] at k
    exact k)
  have HKJS : Hid (∀ a cap W, RdS W.heap.size W a sum8 → Calls Tryz.prog 9 #[.slice a 2 cap] W fun e w' => e = .returned (.tuple #[.int .i64 14, .int .i64 0]) ∧ Below W.heap.size W w') := Lib.hid (fun a cap W h => by
    have k := Join_any a cap sum8 W h
    rw [sum8_join.1, sum8_join.2] at k
    exact k)
  have HKJ5 : Hid (∀ a W, RdS W.heap.size W a five8 → Calls Tryz.prog 9 #[.slice a 1 1] W fun e w' => e = .returned (.tuple #[.int .i64 5, .int .i64 0]) ∧ Below W.heap.size W w') := Lib.hid (fun a W h => by
    have k := Join_any a 1 five8 W h
    rw [five8_join.1, five8_join.2] at k
    exact k)
  have HK1 : Hid (∀ W, Tab W → Calls Tryz.prog 7 #[.int .i64 7, .int .i64 1, .int .i64 3, .agg (bvA (List.replicate 32 (0 : UInt8)))] W fun e w' => ∃ v, e = .returned (.tuple #[v, .int .i64 0]) ∧ OwnS W.heap.size w' v one8 ∧ Below W.heap.size W w') := Lib.hid (fun W h => by
    have k := Split_any 7 1 3 (List.replicate 32 0) zeroK_len W h
    rw [(one8_is (List.replicate 32 0)).1, (one8_is (List.replicate 32 0)).2] at k
    exact k)
  have HK2 : Hid (∀ W, Tab W → Calls Tryz.prog 7 #[.int .i64 (-1), .int .i64 0, .int .i64 0, .agg (bvA (List.replicate 32 (0 : UInt8)))] W fun e w' => ∃ v, e = .returned (.tuple #[v, .int .i64 1]) ∧ OwnS W.heap.size w' v [] ∧ Below W.heap.size W w') := Lib.hid (fun W h => by
    have k := Split_any (-1) 0 0 (List.replicate 32 0) zeroK_len W h
    rw [(neg8_is (List.replicate 32 0)).1, (neg8_is (List.replicate 32 0)).2] at k
    exact k)
  have HK3 : Hid (∀ W, Tab W → Calls Tryz.prog 7 #[.int .i64 0, .int .i64 2, .int .i64 1, .agg (bvA (List.replicate 32 (0 : UInt8)))] W fun e w' => ∃ v, e = .returned (.tuple #[v, .int .i64 80]) ∧ OwnS W.heap.size w' v [] ∧ Below W.heap.size W w') := Lib.hid (fun W h => by
    have k := Split_any 0 2 1 (List.replicate 32 0) zeroK_len W h
    rw [(bad8_is (List.replicate 32 0)).1, (bad8_is (List.replicate 32 0)).2] at k
    exact k)
  have HKC : Hid (∀ W, Calls Tryz.prog 12 #[.slice none 0 0] W fun e w' => e = .returned (.int .i64 80) ∧ Below W.heap.size W w') := Lib.hid (fun W => by
    have k := sCheck_any none 0 [] W (RdS.nil _ _ _)
    rw [if_neg (by rw [okS_short (by decide)]; decide)] at k
    exact k)
  have HKE1 : Hid (∀ a cap a' W, RdS W.heap.size W a one8 → RdS W.heap.size W a' one8 → Calls Tryz.prog 11 #[.slice a 3 cap, .slice a' 3 3] W fun e w' => e = .returned (.bool true) ∧ Below W.heap.size W w') := Lib.hid (fun a cap a' W h h' => by
    have k := same8_any a cap one8 a' 3 one8 W h h' (by decide)
    rw [sameB_self] at k
    exact k)
  have HKE2 : Hid (∀ a cap a' W, RdS W.heap.size W a sum8 → RdS W.heap.size W a' sum8 → Calls Tryz.prog 11 #[.slice a 2 cap, .slice a' 2 2] W fun e w' => e = .returned (.bool true) ∧ Below W.heap.size W w') := Lib.hid (fun a cap a' W h h' => by
    have k := same8_any a cap sum8 a' 2 sum8 W h h' (by decide)
    rw [sameB_self] at k
    exact k)
  have HS1 : Hid (SnB w (w.alloc (.cells #[.int .i64 1, .int .i64 9, .int .i64 2, .int .i64 11] 40)) [(some ⟨w.heap.size, 0, none⟩, two8)]) := Lib.hid (((SnB.start w).call ((Below.refl _ _).alloc (Nat.le_refl _) _)).add (RdS.made two8 (by decide) (by decide)))
  go_enter Tryz.func5, Tryz.ntmps5
  have HOE : Hid (OwnS (w.heap.size + 1) ((w.alloc (.cells #[.int .i64 1, .int .i64 9, .int .i64 2, .int .i64 11] 40)).alloc (.cells #[] 40)) (.slice (some ⟨w.heap.size + 1, 0, none⟩) 0 0) []) := Lib.hid (by
    have h := OwnS.empty (B := w.heap.size + 1) (w := w.alloc (.cells #[.int .i64 1, .int .i64 9, .int .i64 2, .int .i64 11] 40)) (by simp)
    rw [World.size_alloc] at h
    exact h)
  have HBE : Hid (w.heap.size + 1 ≤ ((w.alloc (.cells #[.int .i64 1, .int .i64 9, .int .i64 2, .int .i64 11] 40)).alloc (.cells #[] 40)).heap.size) := Lib.hid (by simp)
  have HSE := Lib.hid (HS1.out.call ((Below.refl _ _).alloc (Nat.le_refl _) (.cells #[] 40)))
  have HAE : Hid (Below (w.heap.size + 1) (w.alloc (.cells #[.int .i64 1, .int .i64 9, .int .i64 2, .int .i64 11] 40)) ((w.alloc (.cells #[.int .i64 1, .int .i64 9, .int .i64 2, .int .i64 11] 40)).alloc (.cells #[] 40))) := Lib.hid ((Below.refl _ _).alloc (by simp) _)
  go_wp2_with (refine wpList_appShr rfl (.tmp 25) (.tmp 26) rfl (w.heap.size + 1) _ [] two8 (some ⟨w.heap.size, 0, none⟩) 2 rfl HOE.out rfl (HSE.out.get _ _ (by simp)) (fun h => by cases h) (by decide) HBE.out ?_)
  intro v2 w2 ho2 hg2
  have HO2 : Hid (OwnS (w.heap.size + 1) w2 v2 two8) := Lib.hid ho2
  have HA2 := Lib.hid (HAE.out.trans (hg2.below HOE.out.base HBE.out))
  clear ho2 hg2
  go_wp2_with (refine wpList_appShr1 rfl (.tmp 27) (.tmp 29) rfl (w.heap.size + 1) _ _ (3, 13) _ _ rfl HO2.out rfl rfl rfl (by decide) (Nat.le_trans (by simp) HA2.out.size) ?_)
  intro v3 w3 ho3 hb3
  have ho3' : OwnS (w.heap.size + 1) w3 v3 three8 := ho3
  obtain ⟨a3, cap3, rfl, hc3, hm3, _, hr3⟩ := ho3'.formN 3 rfl
  have HS3 := Lib.hid ((HS1.out.call (by rw [World.size_alloc]; exact HA2.out.trans hb3)).add hr3)
  have HC3 := Lib.hid hc3
  have HM3 := Lib.hid hm3
  clear ho3 hb3 ho3' hr3 hc3 hm3 HOE HBE HSE HAE HO2 HA2 HS1
  have HOE3 : Hid (OwnS w3.heap.size (w3.alloc (.cells #[] 40)) (.slice (some ⟨w3.heap.size, 0, none⟩) 0 0) []) := Lib.hid (OwnS.empty (Nat.le_refl _))
  have HAE3 : Hid (Below w3.heap.size w3 (w3.alloc (.cells #[] 40))) := Lib.hid ((Below.refl _ _).alloc (Nat.le_refl _) _)
  have HSE3 := Lib.hid (HS3.out.call HAE3.out)
  go_wp2_with (refine wpList_appShr rfl (.tmp 31) (.tmp 32) rfl w3.heap.size _ [] two8 (some ⟨w.heap.size, 0, none⟩) 2 rfl HOE3.out rfl (HSE3.out.get _ _ (by simp)) (fun h => by cases h) (by decide) HAE3.out.size ?_)
  intro v4 w4 ho4 hg4
  have HO4 : Hid (OwnS w3.heap.size w4 v4 two8) := Lib.hid ho4
  have HA4 := Lib.hid (HAE3.out.trans (hg4.below HOE3.out.base HAE3.out.size))
  clear ho4 hg4
  go_wp2_with (refine wpList_appShr1 rfl (.tmp 33) (.tmp 35) rfl w3.heap.size _ _ (3, 14) _ _ rfl HO4.out rfl rfl rfl (by decide) HA4.out.size ?_)
  intro v5 w5 ho5 hb5
  have ho5' : OwnS w3.heap.size w5 v5 odd8 := ho5
  obtain ⟨a5, cap5, rfl, hc5, hm5, _, hr5⟩ := ho5'.formN 3 rfl
  have HS5 := Lib.hid ((HS3.out.call (HA4.out.trans hb5)).add hr5)
  have HC5 := Lib.hid hc5
  have HM5 := Lib.hid hm5
  clear ho5 hb5 ho5' hr5 hc5 hm5 HOE3 HAE3 HSE3 HO4 HA4 HS3
  have HT5 := Lib.hid (HT.out.below HS5.out.below HT.out.lt)
  go_wp2_with (first
    | (refine wpList_built rfl 24 #[] rfl [] rfl (bvA (List.replicate 32 0)) (by kernel_rfl) ?_)
    | (go_at_call 7; refine (HK1.out _ HT5.out).mono ?_; rintro e w6 ⟨v6, rfl, ho6, hb6⟩; refine Hid.out ?_))
  refine Lib.hid ?_
  obtain ⟨a6, cap6, rfl, _, _, _, hr6⟩ := ho6.formN 3 rfl
  have HS6 := Lib.hid ((HS5.out.call hb6).add hr6)
  have HT6 := Lib.hid (HT5.out.below hb6 HT5.out.lt)
  clear ho6 hb6 hr6 HS5 HT5
  go_wp2_with (go_at_call 9; refine (HKJ2.out _ _ (HS6.out.get _ _ (by simp))).mono ?_; rintro e w7 ⟨rfl, hb7⟩; refine Hid.out ?_)
  refine Lib.hid ?_
  have HS7 := Lib.hid (HS6.out.call hb7)
  have HT7 := Lib.hid (HT6.out.below hb7 HT6.out.lt)
  clear hb7 HS6 HT6
  go_wp2_with (go_at_call 14; refine (HKF3.out _ _ _ HC3.out HM3.out (HS7.out.get _ _ (by simp))).mono ?_; rintro e w8 ⟨rfl, hb8⟩; refine Hid.out ?_)
  refine Lib.hid ?_
  have HS8 := Lib.hid (HS7.out.call hb8)
  have HT8 := Lib.hid (HT7.out.below hb8 HT7.out.lt)
  clear hb8 HS7 HT7
  go_wp2_with (go_at_call 14; refine (HKFO.out _ _ _ HC5.out HM5.out (HS8.out.get _ _ (by simp))).mono ?_; rintro e w9 ⟨rfl, hb9⟩; refine Hid.out ?_)
  refine Lib.hid ?_
  have HS9 := Lib.hid (HS8.out.call hb9)
  have HT9 := Lib.hid (HT8.out.below hb9 HT8.out.lt)
  clear hb9 HS8 HT8
  go_wp2_with (go_at_call 16; refine (HKS.out _ _ (HS9.out.get _ _ (by simp))).mono ?_; rintro e u1 ⟨x1, rfl, ho, hb⟩; refine Hid.out ?_)
  refine Lib.hid ?_
  obtain ⟨b1, cap1, rfl, _, _, _, hr⟩ := ho.formN 2 rfl
  have HU1 := Lib.hid ((HS9.out.call hb).add hr)
  have HTU1 := Lib.hid (HT9.out.below hb HT9.out.lt)
  clear ho hb hr HS9 HT9
  go_wp2_with (go_at_call 9; refine (HKJS.out _ _ _ (HU1.out.get _ _ (by simp))).mono ?_; rintro e u2 ⟨rfl, hb⟩; refine Hid.out ?_)
  refine Lib.hid ?_
  have HU2 := Lib.hid (HU1.out.call hb)
  have HTU2 := Lib.hid (HTU1.out.below hb HTU1.out.lt)
  clear hb HU1 HTU1
  have HR5 : Hid (RdS (u2.alloc (.cells #[.int .i64 64, .int .i64 5] 40)).heap.size (u2.alloc (.cells #[.int .i64 64, .int .i64 5] 40)) (some ⟨u2.heap.size, 0, none⟩) five8) := Lib.hid (RdS.made five8 (by decide) (by decide))
  have HU2' := Lib.hid (HU2.out.call ((Below.refl _ _).alloc (Nat.le_refl _) (.cells #[.int .i64 64, .int .i64 5] 40)))
  have HTU2' := Lib.hid (HTU2.out.below ((Below.refl _ _).alloc (Nat.le_refl _) (.cells #[.int .i64 64, .int .i64 5] 40)) HTU2.out.lt)
  go_wp2_with (go_at_call 9; refine (HKJ5.out _ _ HR5.out).mono ?_; rintro e u3 ⟨rfl, hb⟩; refine Hid.out ?_)
  refine Lib.hid ?_
  have HU3 := Lib.hid (HU2'.out.call hb)
  have HTU3 := Lib.hid (HTU2'.out.below hb HTU2'.out.lt)
  clear hb HU2 HTU2 HU2' HTU2' HR5
  go_wp2_with (first
    | (refine wpList_built rfl 24 #[] rfl [] rfl (bvA (List.replicate 32 0)) (by kernel_rfl) ?_)
    | (go_at_call 7; refine (HK2.out _ HTU3.out).mono ?_; rintro e u4 ⟨x4, rfl, ho, hb⟩; refine Hid.out ?_))
  refine Lib.hid ?_
  obtain ⟨b4, cap4, rfl, _, _, _, _⟩ := ho.formN 0 rfl
  have HU4 := Lib.hid (HU3.out.call hb)
  have HTU4 := Lib.hid (HTU3.out.below hb HTU3.out.lt)
  clear ho hb HU3 HTU3
  go_wp2_with (first
    | (refine wpList_built rfl 24 #[] rfl [] rfl (bvA (List.replicate 32 0)) (by kernel_rfl) ?_)
    | (go_at_call 7; refine (HK3.out _ HTU4.out).mono ?_; rintro e u5 ⟨x5, rfl, ho, hb⟩; refine Hid.out ?_))
  refine Lib.hid ?_
  obtain ⟨b5, cap5', rfl, _, _, _, _⟩ := ho.formN 0 rfl
  have HU5 := Lib.hid (HU4.out.call hb)
  clear ho hb HU4 HTU4
  go_wp2_with (go_at_call 12; refine (HKC.out _).mono ?_; rintro e u6 ⟨rfl, hb⟩; refine Hid.out ?_)
  refine Lib.hid ?_
  have HU6 := Lib.hid (HU5.out.call hb)
  clear hb HU5
  have HR6 : Hid (RdS (u6.alloc (.cells #[.int .i64 1, .int .i64 7, .int .i64 2, .int .i64 7, .int .i64 3, .int .i64 7] 40)).heap.size (u6.alloc (.cells #[.int .i64 1, .int .i64 7, .int .i64 2, .int .i64 7, .int .i64 3, .int .i64 7] 40)) (some ⟨u6.heap.size, 0, none⟩) one8) := Lib.hid (RdS.made one8 (by decide) (by decide))
  have HU6' := Lib.hid (HU6.out.call ((Below.refl _ _).alloc (Nat.le_refl _) (.cells #[.int .i64 1, .int .i64 7, .int .i64 2, .int .i64 7, .int .i64 3, .int .i64 7] 40)))
  go_wp2_with (go_at_call 11; refine (HKE1.out _ _ _ _ (HU6'.out.get _ _ (by simp)) HR6.out).mono ?_; rintro e u7 ⟨rfl, hb⟩; refine Hid.out ?_)
  refine Lib.hid ?_
  have HU7 := Lib.hid (HU6'.out.call hb)
  clear hb HU6 HU6' HR6
  have HR7 : Hid (RdS (u7.alloc (.cells #[.int .i64 1, .int .i64 18, .int .i64 2, .int .i64 22] 40)).heap.size (u7.alloc (.cells #[.int .i64 1, .int .i64 18, .int .i64 2, .int .i64 22] 40)) (some ⟨u7.heap.size, 0, none⟩) sum8) := Lib.hid (RdS.made sum8 (by decide) (by decide))
  have HU7' := Lib.hid (HU7.out.call ((Below.refl _ _).alloc (Nat.le_refl _) (.cells #[.int .i64 1, .int .i64 18, .int .i64 2, .int .i64 22] 40)))
  go_wp2_with (go_at_call 11; refine (HKE2.out _ _ _ _ (HU7'.out.get _ _ (by simp)) HR7.out).mono ?_; rintro e u8 ⟨rfl, hb⟩; refine Hid.out ?_)
  refine Lib.hid ?_
  have HU8 := Lib.hid (HU7'.out.call hb)
  clear hb HU7 HU7' HR7
  go_wp2_with fail
  go_ret
  exact ⟨rfl, HU8.out.below⟩
end Go.Proofs.YtecojpkefobgpaaGreatDoor
