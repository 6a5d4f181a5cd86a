/-
  Contract of the reference's Decode.
-/
import Derived.Test.YtihllbblehjhlaaRvl
import Derived.Test.YtihllbblehjhlaaInv
import Derived.Test.YtihllbblehjhlaaDec
namespace Go.Proofs.Ytihllbblehjhlaa
open Go.RowKit

theorem ndigF_pos : ∀ (f u : Nat), 1 ≤ ndigF f u
  | 0, u => by simp [ndigF]
  | f + 1, u => by simp only [ndigF]; split <;> omega
theorem nil_sz {g : VL} (h : g.isNil = true) : g.sz = 1 := by
  cases g with
  | nil => rfl
  | cons => cases h
theorem kids_sz' {k n : Int} {s : ByteArray} {kids : VL} (ih : kids.wf = true → kids.sz ≤ kids.size + 1) (h1 : vwf k n s kids = true) : kids.sz + 1 ≤ vsize k n s kids := by
  have d1 : ∀ u, 1 ≤ ndig u := ndigF_pos 9
  unfold vwf at h1
  unfold vsize
  split at h1
  · rw [Bool.and_eq_true] at h1; rw [nil_sz h1.2, if_pos (by assumption)]; have := d1 (zig n); omega
  · split at h1
    · rw [Bool.and_eq_true] at h1; rw [nil_sz h1.2, if_neg (by assumption), if_pos (by assumption)]; have := d1 s.size; omega
    · split at h1
      · rw [Bool.and_eq_true] at h1
        have := ih h1.1
        have := d1 kids.len
        rw [if_neg (by assumption), if_neg (by assumption)]; omega
      · cases h1
theorem sz_le : ∀ f : VL, f.wf = true → f.sz ≤ f.size + 1
  | .nil, _ => Nat.le_add_left _ _
  | .cons k n s kids r, h => by
    rw [VL.wf_cons, Bool.and_eq_true] at h
    have h2 := sz_le r h.2
    have h3 := kids_sz' (sz_le kids) h.1
    rw [VL.size_cons]; simp only [VL.sz]; omega
theorem kids_sz {k n : Int} {s : ByteArray} {kids : VL} (h : vwf k n s kids = true) : kids.sz + 1 ≤ vsize k n s kids := kids_sz' (sz_le kids) h
theorem below_drewN2 {B : Nat} {w w' : World} (h : Below B w w') (n : Nat) : Below B w (w'.drewN n) := h.trans ⟨rfl, rfl, rfl, Nat.le_refl _, fun _ _ => rfl⟩
set_option maxRecDepth 100000 in
set_option maxHeartbeats 1600000 in
theorem refDecode_any (B : Nat) (a : Option Addr) (cap : Nat) (l : List UInt8) (w : World) (hr : RdB B w a l) (hB : B ≤ w.heap.size) (hcap : l.length ≤ cap) (hcm : cap ≤ maxLen) (hll : l.length ≤ 1000000000000) :
    Calls Try.prog 15 #[.slice a l.length cap] w (DecPost w (dec l)) := by
  have HRd := Lib.hid hr
  have HCP := Lib.hid (And.intro hcap hcm)
  clear hr hcap hcm
  go_enter Try.func15, Try.ntmps15
  go_wp2_with fail
  refine (rvalue_any 16 (Nat.le_refl _) B (w.heap.size + 1) 0 l l _ (by show _ = _; omega) ⟨0, rfl, Nat.zero_le _, by omega, fun j => by simp, a, cap, by simp, by simp, by simp, Nat.zero_le _, HCP.out.1, HCP.out.2, HRd.out.below (((Below.refl _ _).alloc hB _).alloc (le_alloc hB _) _)⟩ hll).mono ?_
  intro e w1 hp
  obtain ⟨v, a1, cap1, rfl, hg, hk, hn, hs, hq, hst⟩ := hp
  have hlt1 : w.heap.size + 1 + 1 ≤ w1.heap.size := by simpa using hg.size
  have hbx : Box ((w.alloc (.cells #[.int .i64 0, .int .i64 0, .string ByteArray.empty, .slice none 0 0] 24)).alloc (.cells #[.slice a l.length cap, .int .i64 0, .bool false] 52)) w.heap.size (.int .i64 0) (.int .i64 0) (.string ByteArray.empty) (.slice none 0 0) := by
    refine ⟨by simp; omega, ?_, ?_, ?_, ?_, fun j => ?_⟩
    · rw [World.cell?_alloc_past _ _ _ (by simp)]; simp
    · rw [World.cell?_alloc_past _ _ _ (by simp)]; simp
    · rw [World.cell?_alloc_past _ _ _ (by simp)]; simp
    · rw [World.cell?_alloc_past _ _ _ (by simp)]; simp
    · simp
  have HB1 := Lib.hid (hbx.upd hg (by omega))
  have hbe := Lib.hid (show Below w.heap.size w w1 from (((Below.refl _ _).alloc (Nat.le_refl _) _).alloc (by simp) _).trans (upd_below hg (by omega) (by simp; omega)))
  have HK := Lib.hid (And.intro hk (And.intro hn hs))
  have HQ := Lib.hid hq
  clear hbx hg hk hn hs hq
  have hne : ¬ w.heap.size = w1.heap.size := by omega
  rcases hst with ⟨r, hd, hrl⟩ | ⟨hd, hrx⟩
  · obtain ⟨p, hpd, hpl, hrs⟩ := hrl
    have hrl : r.length = l.length - p := by rw [← hpd]; simp
    obtain ⟨h0, h1, a', cap', b0, b1, b2, b3, b4, b5, b6⟩ := hrs
    clear h1 b4 b5 b6 b0 hpd
    cases r with
    | cons t r' =>
      have HDN : Hid (dec l = none) := by show _ = _; unfold dec; rw [hd]
      have hpn0 : ¬ p = l.length := by simp at hrl; omega
      have hpn : ((p : Int) == (l.length : Int)) = false := by simp; omega
      have hpn2 : (p == l.length) = false := by simpa using hpn0
      have hpn3 : ¬ (p : Int) = (l.length : Int) := by omega
      obtain ⟨w2, hw2⟩ : ∃ w2, w2 = (w1.alloc (.cells #[.int .i64 v.k, .int .i64 v.n, .string v.s, .slice a1 v.kids.len cap1] 24)) := ⟨_, rfl⟩
      have hba : Below w1.heap.size w1 w2 := hw2 ▸ (Below.refl _ _).alloc (Nat.le_refl _) _
      have g2 : w2.cell? ⟨w.heap.size + 1, 2, none⟩ = some (.bool false) := (hba.cell (p := ⟨w.heap.size + 1, 2, none⟩) (by show w.heap.size + 1 < w1.heap.size; omega)).trans b2
      have g1 : w2.cell? ⟨w.heap.size + 1, 1, none⟩ = some (.int .i64 (p : Int)) := (hba.cell (p := ⟨w.heap.size + 1, 1, none⟩) (by show w.heap.size + 1 < w1.heap.size; omega)).trans b1
      have HB2 := Lib.hid (HB1.out.keep hba.size (hba.block _ (by omega)))
      have HBE := Lib.hid (hbe.out.trans (hba.mono (by omega)))
      clear b1 b2 b3
      go_wp2_with fail
      rw [← hw2]
      clear hba
      clear hw2
      go_quiet (fail)
      obtain ⟨nlt, n0, n1, n2, n3, nf⟩ := HB2.out
      go_wp2_with fail
      refine bodyPost_ret (v := .tuple #[.agg #[.int .i64 0, .int .i64 0, .string ByteArray.empty, .slice none 0 0], .int .i64 10]) (by simp [results, Try.results15, go_sem, n0, n1, n2, n3]; rfl) rfl ?_
      exact .inr ⟨HDN.out, rfl, below_set4 (below_drewN2 HBE.out _) (Nat.le_refl _) _ _ _ _⟩
    | nil =>
      obtain rfl : p = l.length := by simp at hrl; omega
      have HDN : Hid (dec l = some v) := by show _ = _; unfold dec; rw [hd]
      obtain ⟨hve, hvc⟩ := dec_good hd
      have hwf := (dval_good 16 l v [] hd).2.1
      have hvs : vsize v.k v.n v.s v.kids ≤ 1000000000000 := by rw [← venc_length, hve]; exact hll
      have hsz := kids_sz hwf
      have HVE := Lib.hid hve
      obtain ⟨st, HST⟩ : ∃ st, Hid (st = ByteArray.mk l.toArray) := ⟨_, Lib.hid rfl⟩
      obtain ⟨w2, hw2⟩ : ∃ w2, w2 = (w1.alloc (.cells #[.int .i64 v.k, .int .i64 v.n, .string v.s, .slice a1 v.kids.len cap1] 24)) := ⟨_, rfl⟩
      have hba : Below w1.heap.size w1 w2 := hw2 ▸ (Below.refl _ _).alloc (Nat.le_refl _) _
      have hz2 : w1.heap.size + 1 ≤ w2.heap.size := by rw [hw2]; simp
      have hbx5 : Box w2 w1.heap.size (.int .i64 v.k) (.int .i64 v.n) (.string v.s) (.slice a1 v.kids.len cap1) := by
        subst hw2; exact ⟨by simp, by simp, by simp, by simp, by simp, fun j => by simp⟩
      have g2 : w2.cell? ⟨w.heap.size + 1, 2, none⟩ = some (.bool false) := (hba.cell (p := ⟨w.heap.size + 1, 2, none⟩) (by show w.heap.size + 1 < w1.heap.size; omega)).trans b2
      have g1 : w2.cell? ⟨w.heap.size + 1, 1, none⟩ = some (.int .i64 (l.length : Int)) := (hba.cell (p := ⟨w.heap.size + 1, 1, none⟩) (by show w.heap.size + 1 < w1.heap.size; omega)).trans b1
      have HWB : Hid (∀ k, k < w1.heap.size → w2.heap[k]? = w1.heap[k]?) := fun k hk => hba.block k hk
      have HB2 := Lib.hid (HB1.out.keep hba.size (hba.block _ (by omega)))
      have HBE := Lib.hid (hbe.out.trans (hba.mono (by omega)))
      have hr2 : RepS w1.heap.size w2 a1 cap1 v.kids := (HQ.out.toS (fun k hk => hk.2)).below hba
      have HR2 := Lib.hid hr2
      have HSF : Hid (∀ w', Below w2.heap.size w2 w' → w'.cell? ⟨w.heap.size + 1, 2, none⟩ = some (.bool false) ∧ w'.cell? ⟨w.heap.size + 1, 1, none⟩ = some (.int .i64 (l.length : Int)) ∧ w'.cell? ⟨w1.heap.size, 0, none⟩ = some (.int .i64 v.k) ∧ w'.cell? ⟨w1.heap.size, 1, none⟩ = some (.int .i64 v.n) ∧ w'.cell? ⟨w1.heap.size, 2, none⟩ = some (.string v.s) ∧ w'.cell? ⟨w1.heap.size, 3, none⟩ = some (.slice a1 v.kids.len cap1) ∧ (convert 27 9 (.slice a l.length cap)).run Try.prog w' = .ok (.string st) w') := by
        intro W hW
        refine ⟨(hW.cell (p := ⟨w.heap.size + 1, 2, none⟩) (by show w.heap.size + 1 < w2.heap.size; omega)).trans g2, (hW.cell (p := ⟨w.heap.size + 1, 1, none⟩) (by show w.heap.size + 1 < w2.heap.size; omega)).trans g1, (hW.cell (p := ⟨w1.heap.size, 0, none⟩) (by show w1.heap.size < w2.heap.size; omega)).trans hbx5.c0, (hW.cell (p := ⟨w1.heap.size, 1, none⟩) (by show w1.heap.size < w2.heap.size; omega)).trans hbx5.c1, (hW.cell (p := ⟨w1.heap.size, 2, none⟩) (by show w1.heap.size < w2.heap.size; omega)).trans hbx5.c2, (hW.cell (p := ⟨w1.heap.size, 3, none⟩) (by show w1.heap.size < w2.heap.size; omega)).trans hbx5.c3, ?_⟩
        rw [HST.out]
        exact run_strB cap (HRd.out.below ((HBE.out.mono hB).trans (hW.mono (by omega))))
      have HX5 := Lib.hid hbx5
      clear b1 b2 b3 hve hd hr2 g1 g2 hbx5
      go_wp2_with fail
      rw [← hw2]
      clear hba hw2
      obtain ⟨f0, f1, f2, f3, f4, f5, f6⟩ := HSF.out _ (Below.refl _ _).drew
      go_region_law ((first
        | (go_simp
           go_at_call 13
           refine (refCheck_any w1.heap.size v.k v.n v.s a1 cap1 v.kids _ (by omega) HK.out.1 HK.out.2.1 HK.out.2.2 (HR2.out.below (Below.refl _ _).drew) (Nat.le_trans (Nat.le_succ _) hz2)).mono ?_
           rw [hvc]
           rintro e w3 ⟨rfl, hb3⟩
           have hw3 := (Below.refl w2.heap.size w2).drew.trans hb3
           have hz3 : w2.heap.size ≤ w3.heap.size := hb3.size
           clear f0 f1 f2 f3 f4 f5 f6
           obtain ⟨f0, f1, f2, f3, f4, f5, f6⟩ := HSF.out _ hw3)
        | (go_simp
           go_at_call 23
           refine (refEncode v.kids.sz w1.heap.size v.k v.n v.s a1 cap1 v.kids _ (Nat.le_refl _) (by omega) HK.out.1 HK.out.2.1 HK.out.2.2 (HR2.out.below (hw3.mono (by omega))) (by omega)).mono ?_
           rw [HVE.out]
           rintro e w4 ⟨v4, rfl, hown, hb4⟩
           obtain ⟨a4, cap4, rfl, hfm, hrd⟩ := hown.form
           have hw4 := hw3.trans (hb4.mono hz3)
           have hcv4 := run_strB cap4 hrd
           rw [← HST.out] at hcv4
           clear hown hfm hrd
           clear f0 f1 f2 f3 f4 f5 f6
           obtain ⟨f0, f1, f2, f3, f4, f5, f6⟩ := HSF.out _ hw4)))
      all_goals
        clear f0 f1 f2 f3 f4 f5 f6 hcv4
        have HB4 := Lib.hid (HB2.out.keep hw4.size (hw4.block _ (by omega)))
        have HX4 := Lib.hid (HX5.out.keep hw4.size (hw4.block _ (by omega)))
        have HW4 := Lib.hid hw4
        obtain ⟨nlt, n0, n1, n2, n3, nf⟩ := HB4.out
        obtain ⟨mlt, m0, m1, m2, m3, mf⟩ := HX4.out
        have hbw := Lib.hid (HBE.out.trans (hw4.mono (by omega)))
        go_wp2_with fail
        refine bodyPost_ret (v := .tuple #[.agg #[.int .i64 v.k, .int .i64 v.n, .string v.s, .slice a1 v.kids.len cap1], .int .i64 0]) (by simp [results, Try.results15, go_sem, n0, n1, n2, n3]) rfl ?_
        have hu := upd_set4 w4 w.heap.size (.int .i64 v.k) (.int .i64 v.n) (.string v.s) (.slice a1 v.kids.len cap1)
        refine .inl ⟨v, a1, cap1, HDN.out, rfl, HK.out.1, HK.out.2.1, HK.out.2.2, ?_, below_set4 hbw.out (Nat.le_refl _) _ _ _ _⟩
        have h2 := HW4.out.size
        have hlo : ∀ k, w.heap.size + 1 + 1 ≤ k → w.heap.size ≤ k := fun k h => by omega
        have hsz1 : ((w.alloc (.cells #[.int .i64 0, .int .i64 0, .string ByteArray.empty, .slice none 0 0] 24)).alloc (.cells #[.slice a l.length cap, .int .i64 0, .bool false] 52)).heap.size = w.heap.size + 1 + 1 := by simp
        refine HQ.out.keep ?c1 ?c2
        case c1 =>
          intro k hk
          have h3 : w.heap.size + 1 + 1 ≤ k := hsz1 ▸ hk.1
          exact ⟨hlo k h3, Nat.lt_of_lt_of_le hk.2 (Nat.le_trans (by omega) hu.size)⟩
        case c2 =>
          intro k hk
          have h3 : w.heap.size + 1 + 1 ≤ k := hsz1 ▸ hk.1
          have h4 : k < w1.heap.size := hk.2
          rw [hu.block k (by omega) (by intro e; injection e with e; omega), HW4.out.block k (by omega)]
          exact HWB.out k h4
  · have HDN : Hid (dec l = none) := by show _ = _; unfold dec; rw [hd]
    have hbad := hrx.bad
    clear hd hrx
    obtain ⟨w2, hw2⟩ : ∃ w2, w2 = (w1.alloc (.cells #[.int .i64 v.k, .int .i64 v.n, .string v.s, .slice a1 v.kids.len cap1] 24)) := ⟨_, rfl⟩
    have hba : Below w1.heap.size w1 w2 := hw2 ▸ (Below.refl _ _).alloc (Nat.le_refl _) _
    have g2 : w2.cell? ⟨w.heap.size + 1, 2, none⟩ = some (.bool true) := (hba.cell (p := ⟨w.heap.size + 1, 2, none⟩) (by show w.heap.size + 1 < w1.heap.size; omega)).trans hbad
    have HB2 := Lib.hid (HB1.out.keep hba.size (hba.block _ (by omega)))
    have HBE := Lib.hid (hbe.out.trans (hba.mono (by omega)))
    clear hbad
    go_wp2_with fail
    rw [← hw2]
    clear hba hw2
    go_quiet (fail)
    obtain ⟨nlt, n0, n1, n2, n3, nf⟩ := HB2.out
    go_wp2_with fail
    refine bodyPost_ret (v := .tuple #[.agg #[.int .i64 0, .int .i64 0, .string ByteArray.empty, .slice none 0 0], .int .i64 10]) (by simp [results, Try.results15, go_sem, n0, n1, n2, n3]; rfl) rfl ?_
    exact .inr ⟨HDN.out, rfl, below_set4 (below_drewN2 HBE.out _) (Nat.le_refl _) _ _ _ _⟩
end Go.Proofs.Ytihllbblehjhlaa
