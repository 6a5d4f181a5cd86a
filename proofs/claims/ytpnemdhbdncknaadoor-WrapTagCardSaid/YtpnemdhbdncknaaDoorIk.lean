/-
  The statements of wrap: Few; the bytes of a number; the key.
-/
import Derived.Test.YtpnemdhbdncknaaDoorIj
namespace Go.Proofs.YtpnemdhbdncknaaDoor
open Go.RowKit
set_option linter.unusedVariables false
set_option linter.unusedSimpArgs false

/-- The sum of the lengths of the first k slices. -/
def sumF (L : List (Option Addr × Nat × Nat)) (k : Nat) : Nat := ((L.take k).map fun x => x.2.1).sum
theorem sumF_succ (L : List (Option Addr × Nat × Nat)) (k : Nat) (h : k < L.length) : sumF L (k + 1) = sumF L k + L[k].2.1 := by
  unfold sumF
  rw [List.take_succ_eq_append_getElem h, List.map_append, List.sum_append]
  rfl
theorem sumF_le (L : List (Option Addr × Nat × Nat)) (M : Nat) (hq : ∀ x ∈ L, x.2.1 ≤ M) (k : Nat) : k ≤ L.length → sumF L k ≤ k * M := by
  induction k with
  | zero => intro _; simp [sumF]
  | succ k ih =>
    intro h
    rw [sumF_succ L k (by omega), Nat.succ_mul]
    have := ih (by omega)
    have := hq L[k] (List.getElem_mem _)
    omega
set_option maxRecDepth 100000 in
set_option maxHeartbeats 800000 in
theorem Few_any (g : Nat) (L : List (Option Addr × Nat × Nat)) (w : World) (hc : ∀ j (h : j < L.length), w.cell? ⟨g, j, none⟩ = some (.slice L[j].1 L[j].2.1 L[j].2.2)) (hn : L.length ≤ 2) (hq : ∀ x ∈ L, x.2.1 ≤ 1125899906842624) :
    Calls Tryd.prog 9 #[.slice (some ⟨g, 0, none⟩) L.length L.length] w fun e w' => e = .returned (.bool (decide (sumF L L.length ≤ 600))) ∧ w' = w := by
  have HC := Lib.hid hc
  have HS := Lib.hid (fun k h => sumF_succ L k h)
  have HLE := Lib.hid (fun k h => sumF_le L 1125899906842624 hq k h)
  have H0 : Hid (sumF L 0 = 0) := Lib.hid (by simp [sumF])
  have HLQ := Lib.hid (fun j (h : j < L.length) => hq L[j] (List.getElem_mem _))
  obtain ⟨T, hT⟩ : ∃ T, sumF L L.length = T := ⟨_, rfl⟩
  have HT := Lib.hid hT
  rw [hT]
  obtain ⟨n, hnn⟩ : ∃ n, L.length = n := ⟨_, rfl⟩
  have HN := Lib.hid hnn
  rw [hnn] at HT hn ⊢
  clear hc hq hT hnn
  go_enter Tryd.func9, Tryd.ntmps9
  go_wp2_with fail
  go_loopw [3, 4] (fun s i wr => wr = w ∧ ∃ k : Nat, k ≤ n ∧ i = .int .i64 k ∧ s = .int .i64 (sumF L k : Nat)) (fun _ i _ => n - (intOf i).toNat)
  case atStart => exact ⟨rfl, 0, by omega, rfl, by rw [H0.out]; rfl⟩
  case round =>
    obtain ⟨rfl, k, hk, rfl, rfl⟩ := hrel
    by_cases hlt : k < n
    · have f1 : decide ((k : Int) < (n : Int)) = true := decide_eq_true (by omega)
      have hkl : k < L.length := by rw [HN.out]; exact hlt
      have ck := HC.out k hkl
      have hs := HS.out k hkl
      have hl := HLE.out k (by omega)
      have hq := HLQ.out k hkl
      generalize L[k] = x at *
      obtain ⟨x1, x2, x3⟩ := x
      obtain ⟨s, hs0⟩ : ∃ s, sumF L k = s := ⟨_, rfl⟩
      rw [hs0] at hs hl ⊢
      have HSU := Lib.hid hs
      have i1 : (s : Int) ≤ 2251799813685248 := by omega
      have i2 : (x2 : Int) ≤ 1125899906842624 := by have : x2 ≤ 1125899906842624 := hq; omega
      clear hs hl hq hs0 hkl
      go_wp2_with fail
      go_roundw
      case rel => exact ⟨trivial, k + 1, by omega, by go_num, by rw [HSU.out]; go_num⟩
      case measure => simp [intOf]; omega
    · obtain rfl : k = n := by omega
      rw [HT.out]
      have f1 : decide ((k : Int) < (k : Int)) = false := decide_eq_false (by omega)
      have f2 : decide ((T : Int) ≤ 600) = decide (T ≤ 600) := decide_eq_decide.2 (by omega)
      go_wp2_with fail
      go_ret
      exact ⟨by first | rfl | (rw [f2]; rfl), rfl⟩
theorem few1_any (a : Option Addr) (p c : Nat) (hp : p ≤ 1125899906842624) (g : Nat) (w : World) (T : TypeId) (h : CB w g T #[.slice a p c]) :
    Calls Tryd.prog 9 #[.slice (some ⟨g, 0, none⟩) 1 1] w fun e w' => e = .returned (.bool (decide (p ≤ 600))) ∧ w' = w := by
  have k := Few_any g [(a, p, c)] w (fun j hj => by
    obtain rfl : j = 0 := by simp at hj; omega
    exact h.cell 0) (by simp) (by simpa using hp)
  have e : sumF [(a, p, c)] 1 = p := by simp [sumF]
  exact (show decide (sumF [(a, p, c)] [(a, p, c)].length ≤ 600) = decide (p ≤ 600) by rw [show [(a, p, c)].length = 1 from rfl, e]) ▸ k
theorem few2_any (a : Option Addr) (p c : Nat) (b : Option Addr) (q d : Nat) (hp : p ≤ 1125899906842624) (hq : q ≤ 1125899906842624) (g : Nat) (w : World) (T : TypeId) (h : CB w g T #[.slice a p c, .slice b q d]) :
    Calls Tryd.prog 9 #[.slice (some ⟨g, 0, none⟩) 2 2] w fun e w' => e = .returned (.bool (decide (p + q ≤ 600))) ∧ w' = w := by
  have k := Few_any g [(a, p, c), (b, q, d)] w (fun j hj => by
    obtain rfl | rfl : j = 0 ∨ j = 1 := by simp at hj; omega
    · exact h.cell 0
    · exact h.cell 1) (by simp) (by simpa using ⟨hp, hq⟩)
  have e : sumF [(a, p, c), (b, q, d)] 2 = p + q := by simp [sumF]
  exact (show decide (sumF [(a, p, c), (b, q, d)] [(a, p, c), (b, q, d)].length ≤ 600) = decide (p + q ≤ 600) by rw [show [(a, p, c), (b, q, d)].length = 2 from rfl, e]) ▸ k

set_option maxRecDepth 100000 in
set_option maxHeartbeats 1600000 in
theorem number9_any (n : Int) (w : World) :
    Calls Tryd.prog 20 #[.int .i64 n] w fun e w' => ∃ v, e = .returned v ∧ OwnB w.heap.size w' v (be8 n) ∧ Below w.heap.size w w' := by
  have HO0 : Hid (OwnB w.heap.size w (.slice none 0 0) ((be8 n).take 0)) := OwnB.nil _ _
  have HB0 := Lib.hid (Below.refl w.heap.size w)
  go_enter Tryd.func20, Tryd.ntmps20
  go_wp2_with fail
  go_loopw [2, 4] (fun v i wr => ∃ k : Nat, k ≤ 8 ∧ i = .int .i64 k ∧ OwnB w.heap.size wr v ((be8 n).take k) ∧ Below w.heap.size w wr) (fun _ i _ => 8 - (intOf i).toNat)
  case atStart => exact ⟨0, by omega, rfl, HO0.out, HB0.out⟩
  case round =>
    clear HO0 HB0
    obtain ⟨k, hk, rfl, ho, hb⟩ := hrel
    have HO := Lib.hid ho
    have HB := Lib.hid hb
    obtain ⟨av, cv, rfl, _, _⟩ := ho.form
    clear ho hb
    by_cases hlt : k < 8
    · have HX := Lib.hid (be8_take n k hlt)
      have HV := Lib.hid (bv_byN n k)
      have HU := Lib.hid (byN_u n k hlt)
      have hl : ((be8 n).take k).length + 1 ≤ 140737488355328 := by rw [List.length_take, be8_len]; omega
      have hi0 : (0 : Int) ≤ 56 - 8 * (k : Int) := by omega
      have HL := Lib.hid hl
      clear hl
      obtain ⟨tk, htk⟩ : ∃ tk, tk = (be8 n).take k := ⟨_, rfl⟩
      rw [← htk] at HX HL HO ⊢
      clear htk
      go_wp2_with ((with_reducible show wpList _ _ _ (({ dst := some 16, op := _, type := _, pos := _, after := _, guard := _ } : Oper) :: _) _ _); go_must (refine wpList_app1 rfl (.tmp 7) (.tmp 15) rfl w.heap.size _ tk (byN n k) wr.heap.size rfl (HO.out.alloc _) rfl ?hc HL.out ?hs ?_))
      case hc => rw [cell_of_row _ _ _ _ _ _ (heap_alloc_new wr _), IntKind.wrap_u64, HU.out, HV.out]; rfl
      case hs => have := HB.out.size; simp; omega
      intro v3 w3 ho3 hg3
      have HB3 := Lib.hid ((HB.out.alloc HB.out.size _).trans (hg3.below (fun k hk => HO.out.base k hk) (HB.out.alloc HB.out.size _).size))
      rw [← HX.out] at ho3
      have HO3 := Lib.hid ho3
      obtain ⟨a3, c3, rfl, _, _⟩ := ho3.form
      clear ho3 hg3
      go_wp2_with fail
      go_roundw
      case rel => exact ⟨k + 1, by omega, by go_num, HO3.out, HB3.out⟩
      case measure => simp [intOf]; omega
    · obtain rfl : k = 8 := by omega
      rw [show (be8 n).take 8 = be8 n from by rw [List.take_of_length_le (by rw [be8_len]; omega)]] at HO
      go_wp2_with fail
      go_ret
      exact ⟨_, rfl, HO.out, HB.out⟩

set_option maxRecDepth 100000 in
set_option maxHeartbeats 1600000 in
theorem key9_any (p u v : Int) (w : World) (hT : Tab w) :
    Calls Tryd.prog 19 #[.int .i64 p, .int .i64 u, .int .i64 v] w fun e w' => e = .returned (.agg (bvA (wK p u v))) ∧ Below w.heap.size w w' := by
  have HT := Lib.hid hT
  have HNB := Lib.hid number9_any
  obtain ⟨X, hX⟩ : ∃ X, wK p u v = X := ⟨_, rfl⟩
  have HX : Hid (tagS (ByteArray.mk #[119, 114, 97, 112]).data.toList ((be8 p ++ be8 u) ++ be8 v) = X) := Lib.hid hX
  have HLX : Hid (X.length = 32) := Lib.hid (by rw [← hX]; exact wK_len _ _ _)
  rw [hX]
  clear hX hT
  have HL1 : Hid ((be8 p).length + (be8 u).length ≤ 140737488355328) := by show _ ≤ _; rw [be8_len, be8_len]; omega
  have HL2 : Hid ((be8 p ++ be8 u).length + (be8 v).length ≤ 140737488355328) := by show _ ≤ _; rw [List.length_append, be8_len, be8_len, be8_len]; omega
  have HL3 : Hid (((be8 p ++ be8 u) ++ be8 v).length = 24) := by show _ = _; simp [be8_len]
  obtain ⟨X2, hX2⟩ : ∃ X, X = be8 p ++ be8 u := ⟨_, rfl⟩
  rw [← hX2] at HL2 HL3 HX
  have HX2 := Lib.hid hX2
  clear hX2
  obtain ⟨X3, hX3⟩ : ∃ X, X = X2 ++ be8 v := ⟨_, rfl⟩
  rw [← hX3] at HL3 HX
  have HX3 := Lib.hid hX3
  clear hX3
  obtain ⟨w1, hw1⟩ : ∃ w1, w1 = w.alloc (.cells (bvA (List.replicate 32 0)) 23) := ⟨_, rfl⟩
  have HB1 : Hid (Below w.heap.size w w1) := Lib.hid (hw1 ▸ (Below.refl _ _).alloc (Nat.le_refl _) _)
  have HD1 : Hid (BB w1 w.heap.size 23 (List.replicate 32 0)) := Lib.hid (hw1 ▸ BB.new w _ _)
  go_enter Tryd.func19, Tryd.ntmps19
  go_wp2_with fail
  change Calls _ _ _ (w.alloc (.cells (bvA (List.replicate 32 0)) 23)) _
  rw [← hw1]
  clear hw1
  refine (HNB.out p _).mono ?_
  rintro e w2 ⟨v2, rfl, ho2, hb2⟩
  obtain ⟨a2, cap2, rfl, -, -⟩ := ho2.form
  have HO2 := Lib.hid ho2
  have HB2 := Lib.hid hb2
  clear ho2 hb2
  go_wp2_with fail
  refine (HNB.out u _).mono ?_
  rintro e w3 ⟨v3, rfl, ho3, hb3⟩
  obtain ⟨a3, cap3, rfl, -, -⟩ := ho3.form
  have HO2b := Lib.hid (HO2.out.below hb3)
  have HB3 := Lib.hid (HB2.out.trans (hb3.mono HB2.out.size))
  have HO3 := Lib.hid ho3
  clear ho3 hb3 HO2 HB2
  go_wp2_with (refine wpList_appB rfl (.tmp 8) (.tmp 10) rfl w1.heap.size _ (be8 p) (be8 u) a3 cap3 rfl HO2b.out rfl HO3.out.rdOf HO3.out.nilCap HL1.out HB3.out.size ?_)
  intro v4 w4 ho4 hg4
  rw [← HX2.out] at ho4
  obtain ⟨a4, cap4, rfl, -, -⟩ := ho4.form
  have HO4 := Lib.hid ho4
  have HB4 := Lib.hid (HB3.out.trans (hg4.below (fun k hk => HO2b.out.base k hk) HB3.out.size))
  clear ho4 hg4 HO2b HO3 HB3
  go_wp2_with fail
  refine (HNB.out v _).mono ?_
  rintro e w5 ⟨v5, rfl, ho5, hb5⟩
  obtain ⟨a5, cap5, rfl, -, -⟩ := ho5.form
  have HO4b := Lib.hid (HO4.out.below hb5)
  have HB5 := Lib.hid (HB4.out.trans (hb5.mono HB4.out.size))
  have HO5 := Lib.hid ho5
  clear ho5 hb5 HO4 HB4 HNB
  go_wp2_with (refine wpList_appB rfl (.tmp 11) (.tmp 13) rfl w1.heap.size _ X2 (be8 v) a5 cap5 rfl HO4b.out rfl HO5.out.rdOf HO5.out.nilCap HL2.out HB5.out.size ?_)
  intro v6 w6 ho6 hg6
  rw [← HX3.out] at ho6
  obtain ⟨a6, cap6, rfl, -, -⟩ := ho6.form
  have HO6 := Lib.hid ho6
  have HB6 := Lib.hid (HB5.out.trans (hg6.below (fun k hk => HO4b.out.base k hk) HB5.out.size))
  clear ho6 hg6 HO4b HO5 HB5
  have HD6 := Lib.hid (HD1.out.below HB6.out HD1.out.lt)
  have hc := Tagged_any ⟨#[119, 114, 97, 112]⟩ a6 cap6 X3 w6 (HT.out.below (HB1.out.trans (HB6.out.mono HB1.out.size)) HT.out.lt) HO6.out.rdOf HO6.out.caps.1 HO6.out.caps.2 (by decide) (by rw [HL3.out]; omega)
  rw [HX.out] at hc
  have HC := Lib.hid hc
  clear hc HO6
  generalize X3.length = n3 at *
  go_wp2_with (go_at_call 21; refine HC.out.mono ?_; rintro e w7 ⟨rfl, hb⟩; refine Hid.out ?_)
  refine Lib.hid ?_
  have HB7 := Lib.hid ((HB1.out.trans (HB6.out.mono HB1.out.size)).trans (hb.mono (Nat.le_trans HB1.out.size HB6.out.size)))
  have HD7 := Lib.hid (HD6.out.below hb HD6.out.lt)
  clear hb HB6 HD6 HC
  go_wp2_with (refine wpList_storeA rfl 23 (.tmp 6) (.tmp 15) rfl w.heap.size (bvA X) rfl rfl 23 _ HD7.out (key_sz _ HLX.out) (key_old _ HLX.out) (bvA_one _) ?_)
  intro w9 h9 hg9
  have hB9 := grown_below HB7.out hg9 (Nat.le_refl _) HB7.out.size
  go_wp2_with fail
  refine bodyPost_ret (v := .agg (bvA X)) ?_ rfl ⟨rfl, hB9⟩
  exact results_cell_row rfl _ _ w.heap.size 23 _ (0, 0) _ rfl h9 Tryd.underlying23 rfl (key_sz _ HLX.out)
end Go.Proofs.YtpnemdhbdncknaaDoor
