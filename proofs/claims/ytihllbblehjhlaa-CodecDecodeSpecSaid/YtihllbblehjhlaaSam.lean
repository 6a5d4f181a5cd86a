/-
  Contracts of Same (both).
-/
import Derived.Test.YtihllbblehjhlaaV
import Derived.Test.YtihllbblehjhlaaByt
import Derived.BigQuiet
import Derived.Deep.QuietTactic
import Derived.Deep.RegionHeld3
namespace Go.Proofs.Ytihllbblehjhlaa
open Go.RowKit

def VL.same : VL → VL → Bool
  | .nil, .nil => true
  | .cons k n s kids r, .cons k' n' s' kids' r' => (decide (k = k') && (decide (n = n') && (decide (s = s') && kids.same kids'))) && r.same r'
  | _, _ => false
def vsame (k n : Int) (s : ByteArray) (kids : VL) (k' n' : Int) (s' : ByteArray) (kids' : VL) : Bool := decide (k = k') && (decide (n = n') && (decide (s = s') && kids.same kids'))
theorem VL.same_cons (k n : Int) (s : ByteArray) (kids r : VL) (k' n' : Int) (s' : ByteArray) (kids' r' : VL) : (VL.cons k n s kids r).same (.cons k' n' s' kids' r') = (vsame k n s kids k' n' s' kids' && r.same r') := rfl
theorem VL.same_len : ∀ (f g : VL), f.len ≠ g.len → f.same g = false
  | .nil, .nil, h => absurd rfl h
  | .nil, .cons .., _ => rfl
  | .cons .., .nil, _ => rfl
  | .cons k n s kids r, .cons k' n' s' kids' r', h => by
    rw [VL.same_cons, VL.same_len r r' (by simp only [VL.len] at h; omega), Bool.and_false]
theorem VL.same_iff : ∀ (f g : VL), f.same g = true ↔ f = g
  | .nil, .nil => by simp [VL.same]
  | .nil, .cons .. => by simp [VL.same]
  | .cons .., .nil => by simp [VL.same]
  | .cons k n s kids r, .cons k' n' s' kids' r' => by
    simp only [VL.same, Bool.and_eq_true, decide_eq_true_eq, VL.same_iff kids kids', VL.same_iff r r', VL.cons.injEq]
    constructor
    · rintro ⟨⟨a, b, c, d⟩, e⟩; exact ⟨a, b, c, d, e⟩
    · rintro ⟨a, b, c, d, e⟩; exact ⟨⟨a, b, c, d⟩, e⟩
theorem vsame_iff (k n : Int) (s : ByteArray) (kids : VL) (k' n' : Int) (s' : ByteArray) (kids' : VL) : vsame k n s kids k' n' s' kids' = true ↔ k = k' ∧ n = n' ∧ s = s' ∧ kids = kids' := by
  simp only [vsame, Bool.and_eq_true, decide_eq_true_eq, VL.same_iff]

theorem ba_inj {a b : ByteArray} (h : a.toList = b.toList) : a = b := by
  rw [ByteArray.toList_eq, ByteArray.toList_eq] at h
  cases a; cases b
  simp only [ByteArray.mk.injEq]
  exact Array.ext' h

set_option maxRecDepth 100000 in
set_option maxHeartbeats 800000 in
theorem refSame_any (m : Nat) : ∀ (B : Nat) (k n : Int) (s : ByteArray) (a : Option Addr) (cap : Nat) (kids : VL) (k' n' : Int) (s' : ByteArray) (a' : Option Addr) (cap' : Nat) (kids' : VL) (w : World), kids.sz ≤ m → RepS B w a cap kids → RepS B w a' cap' kids' → B ≤ w.heap.size →
    Calls Try.prog 16 #[.agg #[.int .i64 k, .int .i64 n, .string s, .slice a kids.len cap], .agg #[.int .i64 k', .int .i64 n', .string s', .slice a' kids'.len cap']] w fun e w' => e = .returned (.bool (vsame k n s kids k' n' s' kids')) ∧ Below w.heap.size w w' := by
  induction m with
  | zero => intro B k n s a cap kids k' n' s' a' cap' kids' w hm; have := kids.sz_pos; omega
  | succ m ih =>
  intro B k n s a cap kids k' n' s' a' cap' kids' w hm hr hr' hB
  by_cases h1 : ¬ k = k'
  · have HV : Hid (vsame k n s kids k' n' s' kids' = false) := by show _ = _; simp [vsame, h1]
    go_enter Try.func16, Try.ntmps16
    go_wp2
    all_goals
      go_ret
      exact ⟨by rw [HV.out]; rfl, ((Below.refl _ _).alloc (Nat.le_refl _) _).alloc (by simp) _⟩
  have h1 : k = k' := by omega
  subst h1
  by_cases h2 : ¬ n = n'
  · have HV : Hid (vsame k n s kids k n' s' kids' = false) := by show _ = _; simp [vsame, h2]
    go_enter Try.func16, Try.ntmps16
    go_wp2
    all_goals
      go_ret
      exact ⟨by rw [HV.out]; rfl, ((Below.refl _ _).alloc (Nat.le_refl _) _).alloc (by simp) _⟩
  have h2 : n = n' := by omega
  subst h2
  by_cases h3 : ¬ s = s'
  · have h3' : ¬ s.toList = s'.toList := fun h => h3 (ba_inj h)
    have HV : Hid (vsame k n s kids k n s' kids' = false) := by show _ = _; simp [vsame, h3]
    go_enter Try.func16, Try.ntmps16
    go_wp2
    all_goals
      go_ret
      exact ⟨by rw [HV.out]; rfl, ((Below.refl _ _).alloc (Nat.le_refl _) _).alloc (by simp) _⟩
  have h3 : s = s' := Classical.byContradiction h3
  subst h3
  by_cases h4 : ¬ kids.len = kids'.len
  · have HV : Hid (vsame k n s kids k n s kids' = false) := by show _ = _; simp [vsame, VL.same_len _ _ h4]
    go_enter Try.func16, Try.ntmps16
    go_wp2
    all_goals
      go_ret
      exact ⟨by rw [HV.out]; rfl, ((Below.refl _ _).alloc (Nat.le_refl _) _).alloc (by simp) _⟩
  have h4 : kids.len = kids'.len := by omega
  have H4 := Lib.hid h4
  have HV : Hid (vsame k n s kids k n s kids' = kids.same kids') := by show _ = _; simp [vsame]
  have g4 : ((kids.len : Int) != (kids'.len : Int)) = false := by rw [h4]; simp
  clear h4
  have hl := hr.1
  obtain ⟨b, o, hf, HA⟩ := hr.at
  obtain ⟨b', o', hf', HA'⟩ := hr'.at
  clear hr hr'
  unfold maxLen at hl
  go_enter Try.func16, Try.ntmps16
  go_wp2
  go_loopw [5] (fun i wr => ∃ (j : Nat) (r r' : VL), i = .int .i64 j ∧ j + r.len = kids.len ∧ r.len = r'.len ∧ r.sz ≤ m + 1 ∧ RepL B wr b (o + j * 4) r ∧ RepL B wr b' (o' + j * 4) r' ∧ Hid (kids.same kids' = r.same r') ∧ Below (w.heap.size + 2) ((w.alloc (.cells #[.int .i64 k, .int .i64 n, .string s, .slice a kids.len cap] 24)).alloc (.cells #[.int .i64 k, .int .i64 n, .string s, .slice a' kids'.len cap'] 24)) wr) (fun i _ => kids.len - (intOf i).toNat)
  case atStart => exact ⟨0, kids, kids', rfl, by omega, H4.out, hm, by simpa using hf.below (((Below.refl _ _).alloc hB _).alloc (le_alloc hB _) _) _ _ _, by simpa using hf'.below (((Below.refl _ _).alloc hB _).alloc (le_alloc hB _) _) _ _ _, Lib.hid rfl, Below.refl _ _⟩
  case round =>
    obtain ⟨j, r, r', rfl, hj, hrr, hm', hr, hr', HW, hb⟩ := hrel
    have hfin : Below w.heap.size w wr := (((Below.refl _ _).alloc (Nat.le_refl _) _).alloc (by simp) _).trans (hb.mono (by omega))
    have c3 : wr.cell? ⟨w.heap.size, 3, none⟩ = some (.slice a kids.len cap) := by rw [hb.cell (by simp)]; simp
    have c7 : wr.cell? ⟨w.heap.size + 1, 3, none⟩ = some (.slice a' kids'.len cap') := by rw [hb.cell (by simp)]; simp
    cases r with
    | nil =>
      have hje : j = kids.len := by simpa [VL.len] using hj
      have hn : r' = .nil := VL.nil_of_len (by simpa [VL.len] using hrr.symm)
      subst hn
      clear hrr
      go_wp2
      go_ret
      exact ⟨by rw [HV.out, HW.out]; rfl, hfin⟩
    | cons k1 n1 s1 kids1 r1 =>
      cases r' with
      | nil => simp [VL.len] at hrr
      | cons k2 n2 s2 kids2 r2 =>
      simp only [VL.len] at hj hrr
      have hlt : j < kids.len := by omega
      have hlt' : j < kids'.len := by have := H4.out; omega
      have ha : a = some ⟨b, o, none⟩ := by
        rcases HA.out with h | h
        · rw [h] at hlt; simp [VL.len] at hlt
        · exact h
      have ha' : a' = some ⟨b', o', none⟩ := by
        rcases HA'.out with h | h
        · rw [h] at hlt'; simp [VL.len] at hlt'
        · exact h
      subst ha ha'
      obtain ⟨q0, q1, q2, q3, q4, q5, q6, ⟨a1, cap1, q7, q8⟩, q9⟩ := hr
      obtain ⟨p0, p1, p2, p3, p4, p5, p6, ⟨a2, cap2, p7, p8⟩, p9⟩ := hr'
      simp only [VL.sz] at hm'
      have := kids1.sz_pos
      have := r1.sz_pos
      have hBw : w.heap.size + 2 ≤ wr.heap.size := by simpa using hb.size
      have hBr : B ≤ wr.heap.size := by omega
      have HS1 := Lib.hid (show RepS B wr a1 cap1 kids1 from q8)
      have HS2 := Lib.hid (show RepS B wr a2 cap2 kids2 from p8)
      have HM := Lib.hid q9
      have HM' := Lib.hid p9
      clear q8 q9 p8 p9
      have hR := Lib.hid (show r1.len = r2.len by omega)
      clear hrr
      have HB2 : ∀ w1, Below wr.drew.heap.size wr.drew w1 → Below (w.heap.size + 2) wr w1 := fun w1 h => ((Below.refl _ _).drew).trans (h.mono (by simpa using hBw))
      have HB3 := Lib.hid HB2
      clear HB2
      have hlt1 : (j : Int) < (kids.len : Int) := by omega
      have hlt2 : (j : Int) < (kids'.len : Int) := by omega
      have hj0 : (0 : Int) ≤ (j : Int) := by omega
      go_wp2_with fail
      go_region_held3 (fun w' => w'.cell? ⟨w.heap.size, 3, none⟩ = some (.slice (some ⟨b, o, none⟩) kids.len cap) ∧ w'.cell? ⟨w.heap.size + 1, 3, none⟩ = some (.slice (some ⟨b', o', none⟩) kids'.len cap') ∧
          w'.cell? ⟨b, o + j * 4, none⟩ = some (.int .i64 k1) ∧ w'.cell? ⟨b, o + j * 4 + 1, none⟩ = some (.int .i64 n1) ∧ w'.cell? ⟨b, o + j * 4 + 2, none⟩ = some (.string s1) ∧ w'.cell? ⟨b, o + j * 4 + 3, none⟩ = some (.slice a1 kids1.len cap1) ∧
          w'.cell? ⟨b', o' + j * 4, none⟩ = some (.int .i64 k2) ∧ w'.cell? ⟨b', o' + j * 4 + 1, none⟩ = some (.int .i64 n2) ∧ w'.cell? ⟨b', o' + j * 4 + 2, none⟩ = some (.string s2) ∧ w'.cell? ⟨b', o' + j * 4 + 3, none⟩ = some (.slice a2 kids2.len cap2))
        (first
          | exact ⟨c3, c7, q4, q5, q6, q7, p4, p5, p6, p7⟩
          | exact hq1)
        (first
          | (go_at_call 16
             refine (ih B k1 n1 s1 a1 cap1 kids1 k2 n2 s2 a2 cap2 kids2 _ (by omega) (HS1.out.below ((Below.refl _ _).drew)) (HS2.out.below ((Below.refl _ _).drew)) hBr).mono ?_
             rintro e w1 ⟨rfl, hb1⟩
             have hb2 := HB3.out w1 hb1
             have hb3 : Below wr.heap.size wr w1 := ((Below.refl _ _).drew).trans hb1
             have z1 : b < wr.heap.size := by omega
             have z2 : b' < wr.heap.size := by omega
             have z3 : w.heap.size < wr.heap.size := by omega
             have z4 : w.heap.size + 1 < wr.heap.size := by omega
             have hq1 := And.intro ((hb3.cell (p := ⟨w.heap.size, 3, none⟩) z3).trans c3) (And.intro ((hb3.cell (p := ⟨w.heap.size + 1, 3, none⟩) z4).trans c7) (And.intro ((hb3.cell (p := ⟨b, o + j * 4, none⟩) z1).trans q4) (And.intro ((hb3.cell (p := ⟨b, o + j * 4 + 1, none⟩) z1).trans q5) (And.intro ((hb3.cell (p := ⟨b, o + j * 4 + 2, none⟩) z1).trans q6) (And.intro ((hb3.cell (p := ⟨b, o + j * 4 + 3, none⟩) z1).trans q7) (And.intro ((hb3.cell (p := ⟨b', o' + j * 4, none⟩) z2).trans p4) (And.intro ((hb3.cell (p := ⟨b', o' + j * 4 + 1, none⟩) z2).trans p5) (And.intro ((hb3.cell (p := ⟨b', o' + j * 4 + 2, none⟩) z2).trans p6) ((hb3.cell (p := ⟨b', o' + j * 4 + 3, none⟩) z2).trans p7))))))))) ))
      all_goals
        have hfin2 : Below w.heap.size w w1 := (((Below.refl _ _).alloc (Nat.le_refl _) _).alloc (by simp) _).trans ((hb.trans hb2).mono (by omega))
        have hM1 := Lib.hid (HM.out.below (hb3.mono hBr))
        have hM2 := Lib.hid (HM'.out.below (hb3.mono hBr))
        cases hv : vsame k1 n1 s1 kids1 k2 n2 s2 kids2 with
        | false =>
          have HVV := Lib.hid hv
          clear hv
          go_wp2
          go_ret
          exact ⟨by rw [HV.out, HW.out, VL.same_cons, HVV.out]; rfl, hfin2⟩
        | true =>
          have HVV := Lib.hid hv
          clear hv
          go_wp2
          go_roundw
          case rel =>
            refine ⟨j + 1, r1, r2, by go_num, by omega, hR.out, by omega, ?_, ?_, ?_, hb.trans hb2⟩
            · rw [show o + (j + 1) * 4 = o + j * 4 + 4 from by omega]; exact hM1.out
            · rw [show o' + (j + 1) * 4 = o' + j * 4 + 4 from by omega]; exact hM2.out
            · show _ = _
              rw [HW.out, VL.same_cons, HVV.out, Bool.true_and]
          case measure => simp [intOf]; omega

/-- What codec.Same does, on values up to a size. -/
def SameSaid (m : Nat) : Prop := ∀ (B : Nat) (k n : Int) (s : ByteArray) (a : Option Addr) (cap : Nat) (kids : VL) (k' n' : Int) (s' : ByteArray) (a' : Option Addr) (cap' : Nat) (kids' : VL) (w : World), kids.sz ≤ m → RepS B w a cap kids → RepS B w a' cap' kids' → B ≤ w.heap.size →
    Calls Try.prog 20 #[.agg #[.int .i64 k, .int .i64 n, .string s, .slice a kids.len cap], .agg #[.int .i64 k', .int .i64 n', .string s', .slice a' kids'.len cap']] w fun e w' => e = .returned (.bool (vsame k n s kids k' n' s' kids')) ∧ Below w.heap.size w w'

set_option maxRecDepth 100000 in
set_option maxHeartbeats 800000 in
theorem equalFunc_any (m : Nat) (ih : SameSaid m) (B : Nat) (a : Option Addr) (cap : Nat) (kids : VL) (a' : Option Addr) (cap' : Nat) (kids' : VL) (w : World) (hm : kids.sz ≤ m + 1) (hr : RepS B w a cap kids) (hr' : RepS B w a' cap' kids') (hB : B ≤ w.heap.size) :
    Calls Try.prog 32 #[.slice a kids.len cap, .slice a' kids'.len cap', .func (.func 20) #[] #[]] w fun e w' => e = .returned (.bool (kids.same kids')) ∧ Below w.heap.size w w' := by
  by_cases h4 : ¬ kids.len = kids'.len
  · have HV : Hid (kids.same kids' = false) := VL.same_len _ _ h4
    go_enter Try.func32, Try.ntmps32
    go_wp2
    all_goals
      go_ret
      exact ⟨by rw [HV.out]; rfl, Below.refl _ _⟩
  have h4 : kids.len = kids'.len := by omega
  have H4 := Lib.hid h4
  have g4 : ((kids.len : Int) != (kids'.len : Int)) = false := by rw [h4]; simp
  clear h4
  have hl := hr.1
  obtain ⟨b, o, hf, HA⟩ := hr.at
  obtain ⟨b', o', hf', HA'⟩ := hr'.at
  clear hr hr'
  unfold maxLen at hl
  go_enter Try.func32, Try.ntmps32
  go_wp2
  go_loopw [17] (fun i wr => ∃ (j : Nat) (r r' : VL), i = .int .i64 j ∧ j + r.len = kids.len ∧ r.len = r'.len ∧ r.sz ≤ m + 1 ∧ RepL B wr b (o + j * 4) r ∧ RepL B wr b' (o' + j * 4) r' ∧ Hid (kids.same kids' = r.same r') ∧ Below w.heap.size w wr) (fun i _ => kids.len - (intOf i).toNat)
  case atStart => exact ⟨0, kids, kids', rfl, by omega, H4.out, hm, by simpa using hf, by simpa using hf', Lib.hid rfl, Below.refl _ _⟩
  case round =>
    obtain ⟨j, r, r', rfl, hj, hrr, hm', hr, hr', HW, hb⟩ := hrel
    cases r with
    | nil =>
      have hje : j = kids.len := by simpa [VL.len] using hj
      have hn : r' = .nil := VL.nil_of_len (by simpa [VL.len] using hrr.symm)
      subst hn
      clear hrr
      go_wp2
      go_ret
      exact ⟨by rw [HW.out]; rfl, hb⟩
    | cons k1 n1 s1 kids1 r1 =>
      cases r' with
      | nil => simp [VL.len] at hrr
      | cons k2 n2 s2 kids2 r2 =>
      simp only [VL.len] at hj hrr
      have hlt : j < kids.len := by omega
      have hlt' : j < kids'.len := by have := H4.out; omega
      have ha : a = some ⟨b, o, none⟩ := by
        rcases HA.out with h | h
        · rw [h] at hlt; simp [VL.len] at hlt
        · exact h
      have ha' : a' = some ⟨b', o', none⟩ := by
        rcases HA'.out with h | h
        · rw [h] at hlt'; simp [VL.len] at hlt'
        · exact h
      subst ha ha'
      obtain ⟨q0, q1, q2, q3, q4, q5, q6, ⟨a1, cap1, q7, q8⟩, q9⟩ := hr
      obtain ⟨p0, p1, p2, p3, p4, p5, p6, ⟨a2, cap2, p7, p8⟩, p9⟩ := hr'
      simp only [VL.sz] at hm'
      have := kids1.sz_pos
      have := r1.sz_pos
      have hBw : w.heap.size ≤ wr.heap.size := hb.size
      have hBr : B ≤ wr.heap.size := by omega
      have HS1 := Lib.hid (show RepS B wr a1 cap1 kids1 from q8)
      have HS2 := Lib.hid (show RepS B wr a2 cap2 kids2 from p8)
      have HM := Lib.hid q9
      have HM' := Lib.hid p9
      clear q8 q9 p8 p9
      have hR := Lib.hid (show r1.len = r2.len by omega)
      clear hrr
      have hbl : b < wr.heap.size := by omega
      have hbl' : b' < wr.heap.size := by omega
      go_wp2_with fail
      have hbb : ∀ o1 o2, Below B wr ((wr.alloc o1).alloc o2) := fun o1 o2 => ((Below.refl _ _).alloc hBr _).alloc (le_alloc hBr _) _
      refine (ih B k1 n1 s1 a1 cap1 kids1 k2 n2 s2 a2 cap2 kids2 _ (by omega) (HS1.out.below (hbb _ _)) (HS2.out.below (hbb _ _)) (le_alloc (le_alloc hBr _) _)).mono ?_
      rintro e w1 ⟨rfl, hb1⟩
      have hb2 : Below w.heap.size w w1 := ((hb.alloc hBw _).alloc (le_alloc hBw _) _).trans (hb1.mono (le_alloc (le_alloc hBw _) _))
      have hb3 : Below B wr w1 := (hbb _ _).trans (hb1.mono (le_alloc (le_alloc hBr _) _))
      have hM1 := Lib.hid (HM.out.below hb3)
      have hM2 := Lib.hid (HM'.out.below hb3)
      clear hb1 hbb
      cases hv : vsame k1 n1 s1 kids1 k2 n2 s2 kids2 with
      | false =>
        have HVV := Lib.hid hv
        clear hv
        go_wp2_with fail
        go_ret
        exact ⟨by rw [HW.out, VL.same_cons, HVV.out]; rfl, hb2⟩
      | true =>
        have HVV := Lib.hid hv
        clear hv
        go_wp2_with fail
        go_roundw
        case rel =>
          refine ⟨j + 1, r1, r2, by go_num, by omega, hR.out, by omega, ?_, ?_, ?_, hb2⟩
          · rw [show o + (j + 1) * 4 = o + j * 4 + 4 from by omega]; exact hM1.out
          · rw [show o' + (j + 1) * 4 = o' + j * 4 + 4 from by omega]; exact hM2.out
          · show _ = _
            rw [HW.out, VL.same_cons, HVV.out, Bool.true_and]
        case measure => simp [intOf]; omega

set_option maxRecDepth 100000 in
set_option maxHeartbeats 800000 in
theorem same_any (m : Nat) : SameSaid m := by
  induction m with
  | zero => intro B k n s a cap kids k' n' s' a' cap' kids' w hm; have := kids.sz_pos; omega
  | succ m ih =>
  intro B k n s a cap kids k' n' s' a' cap' kids' w hm hr hr' hB
  by_cases h1 : ¬ k = k'
  · have HV : Hid (vsame k n s kids k' n' s' kids' = false) := by show _ = _; simp [vsame, h1]
    go_enter Try.func20, Try.ntmps20
    go_wp2
    all_goals
      go_ret
      exact ⟨by rw [HV.out]; rfl, ((Below.refl _ _).alloc (Nat.le_refl _) _).alloc (by simp) _⟩
  have h1 : k = k' := by omega
  subst h1
  by_cases h2 : ¬ n = n'
  · have HV : Hid (vsame k n s kids k n' s' kids' = false) := by show _ = _; simp [vsame, h2]
    go_enter Try.func20, Try.ntmps20
    go_wp2
    all_goals
      go_ret
      exact ⟨by rw [HV.out]; rfl, ((Below.refl _ _).alloc (Nat.le_refl _) _).alloc (by simp) _⟩
  have h2 : n = n' := by omega
  subst h2
  by_cases h3 : ¬ s = s'
  · have h3' : ¬ s.toList = s'.toList := fun h => h3 (ba_inj h)
    have HV : Hid (vsame k n s kids k n s' kids' = false) := by show _ = _; simp [vsame, h3]
    go_enter Try.func20, Try.ntmps20
    go_wp2
    all_goals
      go_ret
      exact ⟨by rw [HV.out]; rfl, ((Below.refl _ _).alloc (Nat.le_refl _) _).alloc (by simp) _⟩
  have h3 : s = s' := Classical.byContradiction h3
  subst h3
  have HV : Hid (vsame k n s kids k n s kids' = kids.same kids') := by show _ = _; simp [vsame]
  go_enter Try.func20, Try.ntmps20
  go_wp2_with fail
  refine (equalFunc_any m ih B a cap kids a' cap' kids' _ hm (hr.below (((Below.refl _ _).alloc hB _).alloc (le_alloc hB _) _)) (hr'.below (((Below.refl _ _).alloc hB _).alloc (le_alloc hB _) _)) (le_alloc (le_alloc hB _) _)).mono ?_
  rintro e w1 ⟨rfl, hb1⟩
  go_wp2_with fail
  go_ret
  exact ⟨by rw [HV.out]; rfl, (((Below.refl _ _).alloc (Nat.le_refl _) _).alloc (by simp) _).trans (hb1.mono (by simp; omega))⟩
end Go.Proofs.Ytihllbblehjhlaa
