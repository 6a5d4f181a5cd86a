/-
  bytes.Equal; package cipher: Seal.
-/
import Derived.Test.YtcibbghggfklbaaDoorCg
namespace Go.Proofs.YtcibbghggfklbaaDoor
open Go.RowKit
set_option linter.unusedVariables false
set_option linter.unusedSimpArgs false

theorem RdV.str {w : World} {v : Value} {l : List UInt8} (h : RdV w v l) : (convert 28 9 v).run Tryd.prog w = .ok (.string ⟨l.toArray⟩) w := by
  obtain ⟨a, cap, rfl, hr, _⟩ := h
  exact run_strB cap hr
theorem equal_any (a b : Option Addr) (p q c d : Nat) (l m : List UInt8) (w : World) (hl : RdV w (.slice a p c) l) (hm : RdV w (.slice b q d) m) :
    Calls Tryd.prog 27 #[.slice a p c, .slice b q d] w fun e w' => e = .returned (.bool (l == m)) ∧ w' = w := by
  have h1 := hl.str
  have h2 := hm.str
  have h3 := str_beq l m
  clear hl hm
  go_enter Tryd.func27, Tryd.ntmps27
  go_wp2_with fail
  go_ret
  exact ⟨by rw [← h3]; rfl, rfl⟩

set_option maxRecDepth 100000 in
set_option maxHeartbeats 1000000 in
theorem Seal_ok (k n hd l : List UInt8) (hk : k.length = 32) (hn : n.length = 12) (ah : Option Addr) (ch : Nat) (a : Option Addr) (cap : Nat) (w : World) (hT : Tab w) (hh : RdV w (.slice ah hd.length ch) hd) (hl : RdV w (.slice a l.length cap) l) (hhl : hd.length ≤ 70368744100000) (h16 : l.length ≤ 65536) :
    Calls Tryd.prog 16 #[.agg (bvA k), .agg (bvA n), .slice ah hd.length ch, .slice a l.length cap] w fun e w' => ∃ v, e = .returned (.tuple #[v, .int .i64 0]) ∧ OwnB w.heap.size w' v (sealC k n hd l) ∧ Below w.heap.size w w' := by
  have HSK := Lib.hid (key_size k hk)
  have HSN := Lib.hid (nonce_size n hn)
  have HKN := Lib.hid (KN.start w k n)
  have HT := Lib.hid hT
  have HS : Hid (∀ W, Below w.heap.size w W → w.heap.size ≤ W.heap.size → Calls Tryd.prog 14 #[.agg (bvA k), .agg (bvA n), .slice a l.length cap] W fun e w' => ∃ v, e = .returned (.tuple #[v, .int .i64 0]) ∧ OwnB w.heap.size w' v (cstream k n l) ∧ Below W.heap.size W w') := by
    obtain ⟨a', cap', e, h1, h2, h3, _⟩ := hl
    injection e with e1 e2 e3
    subst e1; subst e3
    exact Lib.hid (fun W hW hz => (Stream_ok k n l hk hn a cap W ((h1.below hW).mono hW.size) h2 h3 h16).mono fun e w' ⟨v, h1, h2, h3⟩ => ⟨v, h1, h2.mono hz, h3⟩)
  have HG : Hid (∀ W a c, Below w.heap.size w W → RdV W (.slice a (cstream k n l).length c) (cstream k n l) → Calls Tryd.prog 25 #[.agg (bvA k), .agg (bvA n), .slice ah hd.length ch, .slice a (cstream k n l).length c] W fun e w' => ∃ v', e = .returned v' ∧ RdV w' v' (tagC k n hd (cstream k n l)) ∧ Below W.heap.size W w') :=
    Lib.hid (fun W a c hW hL => tag_any k n hd _ hk hn ah ch _ W (hT.below hW hT.lt) (hh.call hW) hL hhl (by rw [cstream_len]; omega))
  have HSE : Hid (sealC k n hd l = cstream k n l ++ tagC k n hd (cstream k n l)) := Lib.hid rfl
  have HXL := Lib.hid (cstream_len k n l)
  have HTL := Lib.hid (tagC_len k n hd (cstream k n l))
  generalize cstream k n l = X at *
  generalize tagC k n hd X = T at *
  generalize hd.length = p at *
  obtain ⟨q, hq⟩ : ∃ q, l.length = q := ⟨_, rfl⟩
  rw [hq] at h16 HXL HS ⊢
  clear hk hn hl hh hT hq
  go_enter Tryd.func16, Tryd.ntmps16
  go_wp2_with (first
    | (refine wpList_load_row rfl 23 (.tmp 4) rfl w.heap.size rfl _ (bvA k) (0, 0) _ HKN.out.key Tryd.underlying23 rfl HSK.out ?_)
    | (refine wpList_load_row rfl 25 (.tmp 5) rfl (w.heap.size + 1) rfl _ (bvA n) (0, 0) _ HKN.out.nonce Tryd.underlying25 rfl HSN.out ?_)
    | (go_at_call 14; with_reducible refine (HS.out _ HKN.out.below HKN.out.below.size).mono ?_; rintro e w2 ⟨v2, rfl, ho2, hb2⟩; obtain ⟨a2, c2, rfl, -, -⟩ := ho2.form; have HO2 := Lib.hid ho2; have HK2 := Lib.hid (HKN.out.call hb2); clear ho2 hb2)
    | (refine wpList_load_row rfl 23 (.tmp 4) rfl w.heap.size rfl _ (bvA k) (0, 0) _ HK2.out.key Tryd.underlying23 rfl HSK.out ?_)
    | (refine wpList_load_row rfl 25 (.tmp 5) rfl (w.heap.size + 1) rfl _ (bvA n) (0, 0) _ HK2.out.nonce Tryd.underlying25 rfl HSN.out ?_)
    | (go_at_call 25; with_reducible refine (HG.out w2 a2 c2 HK2.out.below HO2.out.rdv).mono ?_; rintro e w3 ⟨v3, rfl, hr3, hb3⟩; obtain ⟨a3, c3, rfl, r1, r2, r3, r4⟩ := hr3.form; have HO3 := Lib.hid (HO2.out.below hb3); have HK3 := Lib.hid (HK2.out.call hb3); clear hb3)
    | (refine wpList_appB rfl (.tmp 20) (.tmp 25) rfl w.heap.size _ X T a3 c3 rfl HO3.out rfl r1 r4 (by rw [HXL.out, HTL.out]; omega) HK3.out.below.size ?_; intro v4 w4 ho4 hg4))
  go_ret2
  rw [HSE.out]
  exact ⟨_, rfl, ho4, HK3.out.below.trans (hg4.below (fun r hr => HO3.out.base r hr) HK3.out.below.size)⟩

theorem Seal_bad (k n : List UInt8) (hk : k.length = 32) (hn : n.length = 12) (hv : Value) (a : Option Addr) (q cap : Nat) (w : World) (h16 : 65536 < q) :
    Calls Tryd.prog 16 #[.agg (bvA k), .agg (bvA n), hv, .slice a q cap] w fun e w' => e = .returned (.tuple #[.slice none 0 0, .int .i64 60]) ∧ Below w.heap.size w w' := by
  have HSK := Lib.hid (key_size k hk)
  have HSN := Lib.hid (nonce_size n hn)
  have HKN := Lib.hid (KN.start w k n)
  have HS := Lib.hid (fun W => Stream_bad k n a q cap W h16)
  go_enter Tryd.func16, Tryd.ntmps16
  go_wp2_with (first
    | (refine wpList_load_row rfl 23 (.tmp 4) rfl w.heap.size rfl _ (bvA k) (0, 0) _ HKN.out.key Tryd.underlying23 rfl HSK.out ?_)
    | (refine wpList_load_row rfl 25 (.tmp 5) rfl (w.heap.size + 1) rfl _ (bvA n) (0, 0) _ HKN.out.nonce Tryd.underlying25 rfl HSN.out ?_)
    | (go_at_call 14; with_reducible refine (HS.out _).mono ?_; rintro e w2 ⟨rfl, hb2⟩))
  go_ret2
  exact ⟨rfl, (HKN.out.call hb2).below⟩
end Go.Proofs.YtcibbghggfklbaaDoor
