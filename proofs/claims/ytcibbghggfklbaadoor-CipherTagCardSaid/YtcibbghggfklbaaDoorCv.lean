/-
  The walks of chartroomlaw06.CipherBack and CipherPlaces.
-/
import Derived.Test.YtcibbghggfklbaaDoorCx
namespace Go.Proofs.YtcibbghggfklbaaDoor
open Go.RowKit
set_option linter.unusedVariables false
set_option linter.unusedSimpArgs false

theorem Seal_le (k n : List UInt8) (hk : k.length = 32) (hn : n.length = 12) (hd l : List UInt8) (ah : Option Addr) (p ch : Nat) (a : Option Addr) (q cap : Nat) (w : World) (hT : Tab w) (hh : RdV w (.slice ah p ch) hd) (hl : RdV w (.slice a q cap) l) (hhl : hd.length ≤ 70368744100000) (h : l.length ≤ 65536) :
    Calls Tryd.prog 16 #[.agg (bvA k), .agg (bvA n), .slice ah p ch, .slice a q cap] w (AnsO (sealC k n hd l) 0 w) := by
  have := Seal_any k n hk hn hd l ah p ch a q cap w hT hh hl hhl
  unfold sealX streamE at this
  rwa [if_pos h, if_pos h] at this
theorem Stream_le (k n : List UInt8) (hk : k.length = 32) (hn : n.length = 12) (l : List UInt8) (a : Option Addr) (q cap : Nat) (w : World) (hl : RdV w (.slice a q cap) l) (h : l.length ≤ 65536) :
    Calls Tryd.prog 14 #[.agg (bvA k), .agg (bvA n), .slice a q cap] w (AnsO (cstream k n l) 0 w) := by
  have := Stream_any k n hk hn l a q cap w hl
  unfold streamX streamE at this
  rwa [if_pos h, if_pos h] at this
theorem Open_sealed (k n : List UInt8) (hk : k.length = 32) (hn : n.length = 12) (hd b : List UInt8) (ah : Option Addr) (p ch : Nat) (a : Option Addr) (q cap : Nat) (w : World) (hT : Tab w) (hh : RdV w (.slice ah p ch) hd) (hl : RdV w (.slice a q cap) (sealC k n hd b)) (hhl : hd.length ≤ 70368744100000) (h : b.length ≤ 65536) :
    Calls Tryd.prog 18 #[.agg (bvA k), .agg (bvA n), .slice ah p ch, .slice a q cap] w (AnsO b 0 w) := by
  have := Open_any k n hk hn hd _ ah p ch a q cap w hT hh hl hhl
  unfold openX openE at this
  rwa [if_pos (opens_seal _ _ _ _ h), if_pos (opens_seal _ _ _ _ h), open_seal] at this
theorem RdV.len {w : World} {a : Option Addr} {q c : Nat} {l : List UInt8} (h : RdV w (.slice a q c) l) : q = l.length := by
  obtain ⟨a', c', e, _⟩ := h.form
  injection e
theorem RdV.cut {w : World} {a : Option Addr} {q c : Nat} {l : List UInt8} (h : RdV w (.slice a q c) l) (k : Nat) (hk : k ≤ q) : RdV w (.slice a k c) (l.take k) := by
  have hq := h.len
  obtain ⟨a', c', e, h1, h2, h3, h4⟩ := h.form
  injection e with e1 e2 e3
  subst e1; subst e3
  exact ⟨a, c, by rw [List.length_take, Nat.min_eq_left (by omega)], h1.take k, by rw [List.length_take]; omega, h3, h4⟩
theorem RdV.caps {w : World} {a : Option Addr} {q c : Nat} {l : List UInt8} (h : RdV w (.slice a q c) l) : q ≤ c := by
  obtain ⟨a', c', e, h1, h2, h3, h4⟩ := h.form
  injection e with e1 e2 e3
  omega

set_option maxRecDepth 100000 in
set_option maxHeartbeats 4000000 in
theorem back_walk (k n : List UInt8) (hk : k.length = 32) (hn : n.length = 12) (H O B : List UInt8) (ah : Option Addr) (p ch : Nat) (ao : Option Addr) (po co : Nat) (ab : Option Addr) (q cb : Nat) (w : World) (hT : Tab w) (hH : RdV w (.slice ah p ch) H) (hO : RdV w (.slice ao po co) O) (hB : RdV w (.slice ab q cb) B) :
    Calls Tryd.prog 6 #[.agg (bvA k), .agg (bvA n), .slice ah p ch, .slice ao po co, .slice ab q cb] w fun e w' => e = .returned (.bool true) ∧ Below w.heap.size w w' := by
  have HSK := Lib.hid (key_size k hk)
  have HSN := Lib.hid (nonce_size n hn)
  have HLK := Lib.hid hk
  have HLN := Lib.hid hn
  have HT := Lib.hid hT
  obtain ⟨w1, hw1⟩ : ∃ w1, w1 = (w.alloc (.cells (bvA k) 23)).alloc (.cells (bvA n) 25) := ⟨_, rfl⟩
  have HK1 : Hid (KN w k n w1) := Lib.hid (hw1 ▸ KN.start w k n)
  clear hk hn hT
  have hp := hH.len
  have hpo := hO.len
  have hq := hB.len
  have HH := Lib.hid hH
  have HO := Lib.hid hO
  have HB := Lib.hid hB
  clear hH hO hB
  go_enter Tryd.func6, Tryd.ntmps6
  go_wp2_with fail
  rw [← hw1]
  clear hw1
  refine (csane6_any w1 (HT.out.below HK1.out.below HT.out.lt)).mono ?_
  rintro e w2 ⟨rfl, hb2⟩
  have HK2 := Lib.hid (HK1.out.call hb2)
  clear hb2 HK1
  by_cases g1 : 400 < q
  · have f1 : decide ((400 : Int) < (q : Int)) = true := decide_eq_true (by omega)
    go_wp2_with fail
    go_ret
    exact ⟨rfl, HK2.out.below⟩
  have f1 : decide ((400 : Int) < (q : Int)) = false := decide_eq_false (by omega)
  by_cases g2 : 400 < p
  · have f2 : decide ((400 : Int) < (p : Int)) = true := decide_eq_true (by omega)
    go_wp2_with fail
    go_ret
    exact ⟨rfl, HK2.out.below⟩
  have f2 : decide ((400 : Int) < (p : Int)) = false := decide_eq_false (by omega)
  by_cases g3 : 400 < po
  · have f3 : decide ((400 : Int) < (po : Int)) = true := decide_eq_true (by omega)
    go_wp2_with fail
    go_ret
    exact ⟨rfl, HK2.out.below⟩
  have f3 : decide ((400 : Int) < (po : Int)) = false := decide_eq_false (by omega)
  have HLB : Hid (B.length ≤ 65536 ∧ H.length ≤ 70368744100000 ∧ O.length ≤ 70368744100000) := Lib.hid ⟨by omega, by omega, by omega⟩
  have HX1 : Hid ((sealC k n H B).length = q + 16) := Lib.hid (by rw [sealC_len, hq])
  have HX3 : Hid ((sealC k n O B).length = q + 16) := Lib.hid (by rw [sealC_len, hq])
  have HTK1 : Hid ((sealC k n H B).take q = cstream k n B) := Lib.hid (by rw [hq, sealC_take])
  have HTK3 : Hid ((sealC k n O B).take q = cstream k n B) := Lib.hid (by rw [hq, sealC_take])
  have HQ := Lib.hid hq
  have HIQ : Hid ((q : Int) ≤ 400) := Lib.hid (by omega)
  clear hp hpo hq g1 g2 g3
  go_wp2_with (first
      | (refine wpList_load_row rfl 23 (.tmp 5) rfl w.heap.size rfl _ (bvA k) (0, 0) _ HK2.out.key Tryd.underlying23 rfl HSK.out ?_)
      | (refine wpList_load_row rfl 25 (.tmp 6) rfl (w.heap.size + 1) rfl _ (bvA n) (0, 0) _ HK2.out.nonce Tryd.underlying25 rfl HSN.out ?_))
  refine (Seal_le k n HLK.out HLN.out H B ah p ch ab q cb w2 (HT.out.below HK2.out.below HT.out.lt) (HH.out.call HK2.out.below) (HB.out.call HK2.out.below) HLB.out.2.1 HLB.out.1).mono ?_
  rintro e w3 hA
  obtain ⟨a1, c1, rfl, ho1, hb3⟩ := hA.open
  rw [HX1.out] at ho1 ⊢
  have HR1 := Lib.hid ho1.rdv
  have HK3 := Lib.hid (HK2.out.call hb3)
  clear hA ho1 hb3 HK2
  go_wp2_with (first
      | (refine wpList_load_row rfl 23 (.tmp 5) rfl w.heap.size rfl _ (bvA k) (0, 0) _ HK3.out.key Tryd.underlying23 rfl HSK.out ?_)
      | (refine wpList_load_row rfl 25 (.tmp 6) rfl (w.heap.size + 1) rfl _ (bvA n) (0, 0) _ HK3.out.nonce Tryd.underlying25 rfl HSN.out ?_))
  refine (Open_sealed k n HLK.out HLN.out H B ah p ch a1 (q + 16) c1 w3 (HT.out.below HK3.out.below HT.out.lt) (HH.out.call HK3.out.below) HR1.out HLB.out.2.1 HLB.out.1).mono ?_
  rintro e w4 hA
  obtain ⟨a2, c2, rfl, ho2, hb4⟩ := hA.open
  rw [← HQ.out] at ho2 ⊢
  have HR2 := Lib.hid ho2.rdv
  have HR1' := Lib.hid (HR1.out.call hb4)
  have HK4 := Lib.hid (HK3.out.call hb4)
  clear hA ho2 hb4 HK3 HR1
  go_wp2_with (first
      | (refine wpList_load_row rfl 23 (.tmp 5) rfl w.heap.size rfl _ (bvA k) (0, 0) _ HK4.out.key Tryd.underlying23 rfl HSK.out ?_)
      | (refine wpList_load_row rfl 25 (.tmp 6) rfl (w.heap.size + 1) rfl _ (bvA n) (0, 0) _ HK4.out.nonce Tryd.underlying25 rfl HSN.out ?_))
  refine (Seal_le k n HLK.out HLN.out O B ao po co ab q cb w4 (HT.out.below HK4.out.below HT.out.lt) (HO.out.call HK4.out.below) (HB.out.call HK4.out.below) HLB.out.2.2 HLB.out.1).mono ?_
  rintro e w5 hA
  obtain ⟨a3, c3, rfl, ho3, hb5⟩ := hA.open
  rw [HX3.out] at ho3 ⊢
  have HR3 := Lib.hid ho3.rdv
  have HR1 := Lib.hid (HR1'.out.call hb5)
  have HR2' := Lib.hid (HR2.out.call hb5)
  have HK5 := Lib.hid (HK4.out.call hb5)
  clear hA ho3 hb5 HK4 HR1' HR2
  go_wp2_with (first
      | (refine wpList_load_row rfl 23 (.tmp 5) rfl w.heap.size rfl _ (bvA k) (0, 0) _ HK5.out.key Tryd.underlying23 rfl HSK.out ?_)
      | (refine wpList_load_row rfl 25 (.tmp 6) rfl (w.heap.size + 1) rfl _ (bvA n) (0, 0) _ HK5.out.nonce Tryd.underlying25 rfl HSN.out ?_))
  refine (Stream_le k n HLK.out HLN.out B ab q cb w5 (HB.out.call HK5.out.below) HLB.out.1).mono ?_
  rintro e w6 hA
  obtain ⟨a4, c4, rfl, ho4, hb6⟩ := hA.open
  rw [cstream_len, ← HQ.out] at ho4 ⊢
  have h1 := HR1.out.call hb6
  have h2 := (HR2'.out.call hb6).str
  have h3 := HR3.out.call hb6
  have HK6 := Lib.hid (HK5.out.call hb6)
  have h5 := (HB.out.call HK6.out.below).str
  have u1 := h1.cut q (by omega)
  have u3 := h3.cut q (by omega)
  have i1 : q ≤ c1 := u1.caps
  have i3 : q ≤ c3 := u3.caps
  rw [HTK1.out] at u1
  rw [HTK3.out] at u3
  have v1 := RdV.str (w := w6.drew) u1
  have v3 := RdV.str (w := w6.drew) u3
  have v4 := RdV.str (w := w6.drew) ho4.rdv
  clear hA ho4 hb6 HK5 HR1 HR2' HR3 h1 h3 u1 u3
  obtain ⟨t2, q2⟩ : ∃ s, (⟨B.toArray⟩ : ByteArray) = s := ⟨_, rfl⟩
  obtain ⟨t5, q5⟩ : ∃ s, (⟨B.toArray⟩ : ByteArray) = s := ⟨_, rfl⟩
  obtain ⟨t4, q4⟩ : ∃ s, (⟨(cstream k n B).toArray⟩ : ByteArray) = s := ⟨_, rfl⟩
  obtain ⟨t1, q1⟩ : ∃ s, (⟨(cstream k n B).toArray⟩ : ByteArray) = s := ⟨_, rfl⟩
  obtain ⟨t3, q3⟩ : ∃ s, (⟨(cstream k n B).toArray⟩ : ByteArray) = s := ⟨_, rfl⟩
  have r25 : (t2.toList == t5.toList) = true := by rw [← q2, ← q5, str_beq]; exact beq_self_eq_true _
  have r14 : (t1.toList == t4.toList) = true := by rw [← q1, ← q4, str_beq]; exact beq_self_eq_true _
  have r34 : (t3.toList == t4.toList) = true := by rw [← q3, ← q4, str_beq]; exact beq_self_eq_true _
  rw [q2] at h2
  rw [q5] at h5
  rw [q4] at v4
  rw [q1] at v1
  rw [q3] at v3
  clear q1 q2 q3 q4 q5
  have iq := HIQ.out
  have iw : IntKind.i64.wrap ((q : Int) + 16) = (q : Int) + 16 := IntWalk.i64_in _ (by omega)
  go_wp2_with fail
  clear h2 h5 r25
  go_still (by kernel_rfl)
  go_wp2_with fail
  go_ret
  exact ⟨rfl, HK6.out.below.drew⟩
end Go.Proofs.YtcibbghggfklbaaDoor
