/-
  Path, pathLength, climb and Climb of package digest.
-/
import Derived.Test.YtndbhmipehpebaaDoorPth
namespace Go.Proofs.YtndbhmipehpebaaDoor
open Go.RowKit

def OkD (w : World) (l : List (List UInt8)) (e : Ending) (w' : World) : Prop := ∃ v, e = .returned (.tuple #[v, .int .i64 0]) ∧ OwnD w.heap.size w' v l ∧ Below w.heap.size w w'
theorem Path_ok (a : Option Addr) (cap : Nat) (l : List (List UInt8)) (at_ : Nat) (w : World) (hT : Tab w) (hl : RdD w.heap.size w a l) (hcap : l.length ≤ cap) (hc2 : cap ≤ maxLen) (hat : at_ < l.length) (hmax : l.length ≤ 1099511627776) :
    Calls Tryd.prog 19 #[.slice a l.length cap, .int .i64 at_] w (OkD w (pathS l at_)) := by
  have HC := Lib.hid (pathOf_any _ a cap l at_ w (Nat.lt_succ_self _) hT hl hcap hc2 hat hmax)
  clear hT hl
  go_enter Tryd.func19, Tryd.ntmps19
  go_wp2_with fail
  refine HC.out.mono ?_
  rintro e w2 ⟨v2, rfl, ho2, hb2⟩
  go_wp2_with fail
  go_ret2
  exact ⟨v2, rfl, ho2, hb2⟩
theorem Path_bad (a : Option Addr) (n cap : Nat) (at_ : Int) (w : World) (hn : n ≤ 9223372036854775807) (h : at_ < 0 ∨ (n : Int) ≤ at_) :
    Calls Tryd.prog 19 #[.slice a n cap, .int .i64 at_] w fun e w' => e = .returned (.tuple #[.slice none 0 0, .int .i64 1]) ∧ w = w' := by
  by_cases h0 : at_ < 0
  · clear h
    go_enter Tryd.func19, Tryd.ntmps19
    go_wp2_with fail
    go_ret2
    exact ⟨rfl, rfl⟩
  · have h1 : (n : Int) ≤ at_ := by omega
    clear h
    go_enter Tryd.func19, Tryd.ntmps19
    go_wp2_with fail
    go_ret2
    exact ⟨rfl, rfl⟩

def lenS (at_ n : Nat) : Nat :=
  if h : n < 2 then 0
  else if at_ < half n then lenS at_ (half n) + 1
  else lenS (at_ - half n) (n - half n) + 1
termination_by n
decreasing_by
  · have := half_bd n (by omega); omega
  · have := half_bd n (by omega); omega
theorem lenS_one (at_ n : Nat) (h : n < 2) : lenS at_ n = 0 := by rw [lenS, dif_pos h]
theorem lenS_lo (at_ n : Nat) (h : 2 ≤ n) (ha : at_ < half n) : lenS at_ n = lenS at_ (half n) + 1 := by rw [lenS, dif_neg (by omega), if_pos ha]
theorem lenS_hi (at_ n : Nat) (h : 2 ≤ n) (ha : half n ≤ at_) : lenS at_ n = lenS (at_ - half n) (n - half n) + 1 := by rw [lenS, dif_neg (by omega), if_neg (by omega)]
theorem lenS_le : ∀ (N at_ n : Nat), n < N → lenS at_ n ≤ n
  | 0, _, _, h => by omega
  | N + 1, at_, n, h => by
    by_cases h2 : n < 2
    · rw [lenS_one _ _ h2]; omega
    · have hb := half_bd n (by omega)
      by_cases ha : at_ < half n
      · have := lenS_le N at_ (half n) (by omega)
        rw [lenS_lo _ _ (by omega) ha]; omega
      · have := lenS_le N (at_ - half n) (n - half n) (by omega)
        rw [lenS_hi _ _ (by omega) (by omega)]; omega
theorem pathS_lenS : ∀ (N : Nat) (l : List (List UInt8)) (at_ : Nat), l.length < N → (pathS l at_).length = lenS at_ l.length
  | 0, l, at_, h => by omega
  | N + 1, l, at_, h => by
    by_cases h2 : l.length < 2
    · rw [pathS_one l at_ h2, lenS_one _ _ h2]; rfl
    · have hb := half_bd l.length (by omega)
      by_cases ha : at_ < half l.length
      · rw [pathS_lo l at_ (by omega) ha, lenS_lo _ _ (by omega) ha, List.length_append, pathS_lenS N _ at_ (by rw [List.length_take]; omega), List.length_take, Nat.min_eq_left (by omega)]; rfl
      · rw [pathS_hi l at_ (by omega) (by omega), lenS_hi _ _ (by omega) (by omega), List.length_append, pathS_lenS N _ _ (by rw [List.length_drop]; omega), List.length_drop]; rfl

set_option maxHeartbeats 800000 in
theorem pathLength_any (at0 n0 : Nat) (w : World) (h0 : at0 < n0) (hn : n0 ≤ 1099511627776) :
    Calls Tryd.prog 40 #[.int .i64 at0, .int .i64 n0] w fun e w' => e = .returned (.int .i64 (lenS at0 n0)) ∧ w = w' := by
  have hle := lenS_le _ at0 n0 (Nat.lt_succ_self _)
  obtain ⟨L, hL⟩ : ∃ L, L = lenS at0 n0 := ⟨_, rfl⟩
  rw [← hL] at hle ⊢
  have HL := Lib.hid hL
  have HA := Lib.hid h0
  have HN := Lib.hid hn
  have hL40 : L ≤ 1099511627776 := by omega
  clear hL h0 hn hle
  go_enter Tryd.func40, Tryd.ntmps40
  go_wp2_with fail
  go_loop [0, 1, 4] (fun x y z => ∃ at_ n k : Nat, x = .int .i64 at_ ∧ y = .int .i64 n ∧ z = .int .i64 k ∧ at_ < n ∧ n ≤ 1099511627776 ∧ L = lenS at_ n + k) (fun _ y _ => (intOf y).toNat)
  case atStart => exact ⟨at0, n0, 0, rfl, rfl, rfl, HA.out, HN.out, HL.out⟩
  case round =>
    clear HL HA HN
    obtain ⟨at_, n, k, rfl, rfl, rfl, hat, hn, hk⟩ := hrel
    have HK := Lib.hid hk
    have hkL : k ≤ L := by omega
    clear hk
    by_cases hlt : 1 < n
    · have hb := half_bd n (by omega)
      obtain ⟨hb1, hb2, hb3⟩ := hb
      have hk1 : k < L := by
        have h1 := HK.out
        by_cases ha : at_ < half n
        · rw [lenS_lo _ _ (by omega) ha] at h1; omega
        · rw [lenS_hi _ _ (by omega) (by omega)] at h1; omega
      go_wp2_with fail
      refine (split_same n w (by omega) (by unfold maxLen; omega)).mono ?_
      rintro e w1 ⟨rfl, hw⟩
      obtain rfl := hw
      by_cases ha : at_ < half n
      · go_wp2_with fail
        go_round
        case rel => exact ⟨at_, half n, k + 1, rfl, rfl, by go_num, ha, by omega, by rw [HK.out, lenS_lo _ _ (by omega) ha]; omega⟩
        case measure => simp [intOf]; omega
      · have hge : (half n : Int) ≤ (at_ : Int) := by omega
        go_wp2_with fail
        go_round
        case rel => exact ⟨at_ - half n, n - half n, k + 1, by go_num, by go_num, by go_num, by omega, by omega, by rw [HK.out, lenS_hi _ _ (by omega) (by omega)]; omega⟩
        case measure => simp [intOf]; omega
    · have e : L = k := by rw [HK.out, lenS_one _ _ (by omega)]; omega
      subst e
      go_wp2_with fail
      go_ret
      exact ⟨rfl, rfl⟩
def climbS (d : List UInt8) (at_ n : Nat) (p : List (List UInt8)) : List UInt8 :=
  if h : n < 2 then leafS d
  else if at_ < half n then nodeS (climbS d at_ (half n) (p.take (p.length - 1))) (p.getD (p.length - 1) [])
  else nodeS (p.getD (p.length - 1) []) (climbS d (at_ - half n) (n - half n) (p.take (p.length - 1)))
termination_by n
decreasing_by
  · have := half_bd n (by omega); omega
  · have := half_bd n (by omega); omega
theorem climbS_one (d : List UInt8) (at_ n : Nat) (p : List (List UInt8)) (h : n < 2) : climbS d at_ n p = leafS d := by rw [climbS, dif_pos h]
theorem climbS_lo (d : List UInt8) (at_ n : Nat) (p : List (List UInt8)) (h : 2 ≤ n) (ha : at_ < half n) : climbS d at_ n p = nodeS (climbS d at_ (half n) (p.take (p.length - 1))) (p.getD (p.length - 1) []) := by
  rw [climbS, dif_neg (by omega), if_pos ha]
theorem climbS_hi (d : List UInt8) (at_ n : Nat) (p : List (List UInt8)) (h : 2 ≤ n) (ha : half n ≤ at_) : climbS d at_ n p = nodeS (p.getD (p.length - 1) []) (climbS d (at_ - half n) (n - half n) (p.take (p.length - 1))) := by
  rw [climbS, dif_neg (by omega), if_neg (by omega)]
theorem climbS_len (d : List UInt8) (at_ n : Nat) (p : List (List UInt8)) : (climbS d at_ n p).length = 32 := by
  rw [climbS]
  split
  · exact tagS_len _ _
  · split <;> exact tagS_len _ _
/-- A path leads to the digest of its list. -/
theorem climb_path : ∀ (N : Nat) (l : List (List UInt8)) (at_ : Nat) (d : List UInt8) (h : l[at_]? = some d), l.length < N → climbS d at_ l.length (pathS l at_) = treeS l
  | 0, l, at_, d, h, hN => by omega
  | N + 1, l, at_, d, h, hN => by
    have hlt : at_ < l.length := (List.getElem?_eq_some_iff.1 h).1
    by_cases h2 : l.length < 2
    · rw [climbS_one _ _ _ _ h2]
      obtain ⟨x, rfl⟩ := List.length_eq_one_iff.1 (show l.length = 1 by omega)
      obtain rfl : at_ = 0 := by simpa using hlt
      rw [treeS_one]
      injection h with h
      rw [h]
    · have hb := half_bd l.length (by omega)
      by_cases ha : at_ < half l.length
      · have ih := climb_path N (l.take (half l.length)) at_ d (by rw [List.getElem?_take_of_lt ha]; exact h) (by rw [List.length_take]; omega)
        rw [List.length_take, Nat.min_eq_left (by omega)] at ih
        rw [climbS_lo _ _ _ _ (by omega) ha, pathS_lo l at_ (by omega) ha, treeS_node l (by omega), List.length_append, List.length_singleton, Nat.add_sub_cancel, List.take_left, ih]
        congr 1
        simp
      · have ih := climb_path N (l.drop (half l.length)) (at_ - half l.length) d (by rw [List.getElem?_drop, show half l.length + (at_ - half l.length) = at_ by omega]; exact h) (by rw [List.length_drop]; omega)
        rw [List.length_drop] at ih
        rw [climbS_hi _ _ _ _ (by omega) (by omega), pathS_hi l at_ (by omega) (by omega), treeS_node l (by omega), List.length_append, List.length_singleton, Nat.add_sub_cancel, List.take_left, ih]
        congr 1
        simp

set_option maxRecDepth 100000 in
set_option maxHeartbeats 1600000 in
theorem climb_any : ∀ (N : Nat) (d : List UInt8) (at_ n : Nat) (a : Option Addr) (cap : Nat) (p : List (List UInt8)) (w : World), n < N → d.length = 32 → Tab w → RdD w.heap.size w a p → p.length ≤ cap → cap ≤ maxLen → at_ < n → n ≤ 1099511627776 → p.length = lenS at_ n →
    Calls Tryd.prog 41 #[.agg (bvA d), .int .i64 at_, .int .i64 n, .slice a p.length cap] w fun e w' => e = .returned (.agg (bvA (climbS d at_ n p))) ∧ Below w.heap.size w w' := by
  intro N
  induction N with
  | zero => intro d at_ n a cap p w hN; omega
  | succ N ih =>
    intro d at_ n a cap p w hN hd hT hl hcap hc2 hat hmax hlen
    have HT := Lib.hid hT
    have HL := Lib.hid hl
    have HC2 := Lib.hid hc2
    have HD := Lib.hid hd
    clear hT hl hd
    unfold maxLen at hc2
    have HSD : Hid ((Tryd.prog.info? 26).map (·.size) = some (d.map bv).length) := by show _ = _; rw [List.length_map, HD.out]; exact sha_size
    by_cases h1 : n = 1
    · rw [climbS_one d at_ n p (by omega)]
      have h1' : ((n : Int) == 1) = true := by rw [beq_iff_eq]; omega
      have HLEN := Lib.hid hlen
      clear h1 hlen hN
      go_enter Tryd.func41, Tryd.ntmps41
      have hbx : ((w.alloc (.cells (bvA d) 26)).alloc (.cells (bvA (List.replicate 32 0)) 26)).heap[w.heap.size]? = some (.cells (bvA d) 26 (0, 0)) := heap_alloc2_old w _ _
      have HBX := Lib.hid hbx
      have HSR : Hid ((Tryd.prog.info? 26).map (·.size) = some (bvA d).size) := by show _ = _; rw [bvA_size, HD.out]; exact sha_size
      clear hbx
      go_wp2_with (refine wpList_load_row rfl 26 (.tmp 4) rfl w.heap.size rfl _ (bvA d) (0, 0) _ HBX.out digest_und rfl HSR.out ?_)
      obtain ⟨w1, hw1⟩ : ∃ w1, w1 = (w.alloc (.cells (bvA d) 26)).alloc (.cells (bvA (List.replicate 32 0)) 26) := ⟨_, rfl⟩
      have hB1 : Below w.heap.size w w1 := hw1 ▸ ((Below.refl _ _).alloc (Nat.le_refl _) _).alloc (by simp) _
      have hD1 : BB w1 (w.heap.size + 1) 26 (List.replicate 32 0) := hw1 ▸ heap_alloc2_new w _ _
      change Calls _ _ _ ((w.alloc (.cells (bvA d) 26)).alloc (.cells (bvA (List.replicate 32 0)) 26)) _
      rw [← hw1]
      clear hw1
      refine (leaf_any d HD.out w1 (HT.out.below hB1 HT.out.lt)).mono ?_
      rintro e w2 ⟨rfl, hb2⟩
      have HD2 := Lib.hid (hD1.below hb2 hD1.lt)
      have HB2 := Lib.hid (hB1.trans (hb2.mono hB1.size))
      clear hb2 hD1 hB1
      go_wp2_with (refine wpList_storeA rfl 26 (.tmp 8) (.tmp 14) rfl (w.heap.size + 1) (bvA (leafS d)) rfl rfl 26 _ HD2.out (sha_sz _) (sha_old _) (bvA_one _) ?_)
      intro w9 h9 hg9
      have hB9 := grown_below HB2.out hg9 (Nat.le_succ _) HB2.out.size
      go_wp2_with fail
      refine bodyPost_ret (v := .agg (bvA (leafS d))) ?_ rfl ⟨rfl, hB9⟩
      exact results_cell_row rfl _ _ (w.heap.size + 1) 26 _ (0, 0) _ rfl h9 digest_und rfl (sha_sz _)
    · have h2 : 2 ≤ n := by omega
      have hb := half_bd n h2
      obtain ⟨hb1, hb2, hb3⟩ := hb
      have hne1 : ((n : Int) == 1) = false := by rw [beq_eq_false_iff_ne]; omega
      have hp0 : 0 < p.length := by
        by_cases ha : at_ < half n
        · rw [hlen, lenS_lo _ _ h2 ha]; omega
        · rw [hlen, lenS_hi _ _ h2 (by omega)]; omega
      obtain ⟨top, htop⟩ : ∃ top, top = p.length - 1 := ⟨_, rfl⟩
      have htl : p.length = top + 1 := by omega
      obtain ⟨b, o, rfl, hbB, hcell⟩ := HL.out.at_ hp0
      obtain ⟨q, hq⟩ : ∃ q, p.getD top [] = q := ⟨_, rfl⟩
      have hq2 : p[top]'(by omega) = q := by rw [← hq]; simp [List.getD, show top < p.length by omega]
      have hqr := hcell top (by omega)
      rw [hq2] at hqr
      have hq32 : q.length = 32 := by rw [← hq2]; exact HL.out.len top (by omega)
      obtain ⟨cd, hcd⟩ : ∃ cd, cd = d.map bv := ⟨_, rfl⟩
      obtain ⟨cq, hcq⟩ : ∃ cq, cq = q.map bv := ⟨_, rfl⟩
      have hid_ : (Tryd.prog.info? 26).map (·.size) = some cd.length := by rw [hcd]; exact HSD.out
      have hiq : (Tryd.prog.info? 26).map (·.size) = some cq.length := by rw [hcq, List.length_map, hq32]; exact sha_size
      have hlt1 : p.length ≤ 1099511627776 := by rw [hlen]; have := lenS_le _ at_ n (Nat.lt_succ_self _); omega
      have hs2 := sliceD_to (some ⟨b, o, none⟩) p.length cap top (by omega)
      have HQ := Lib.hid hq
      have HCQ := Lib.hid hcq
      have HCD := Lib.hid hcd
      have HLEN := Lib.hid hlen
      have HTOP := Lib.hid htop
      have HQR : Hid (w.rangeAt b (o + top * 32) cq) := by rw [hcq]; exact hqr
      have HQL := Lib.hid hq32
      clear hcell hqr hq hq2 hcq hcd hlen hq32
      have HTL := Lib.hid htl
      clear htop h1
      by_cases ha : at_ < half n
      · have HS : Hid (climbS d at_ n p = nodeS (climbS d at_ (half n) (p.take top)) q) := by show _ = _; rw [climbS_lo _ _ _ _ h2 ha, ← HTOP.out, HQ.out]
        obtain ⟨X, hX⟩ : ∃ X, X = climbS d at_ (half n) (p.take top) := ⟨_, rfl⟩
        rw [← hX] at HS
        rw [HS.out]
        have c1 : Hid (∀ W, Below w.heap.size w W → Calls Tryd.prog 41 #[.agg cd.toArray, .int .i64 at_, .int .i64 (half n), .slice (some ⟨b, o, none⟩) top cap] W fun e w2 => e = .returned (.agg (bvA X)) ∧ Below W.heap.size W w2) := by
          intro W hW
          have h := ih d at_ (half n) (some ⟨b, o, none⟩) cap (p.take top) W (by omega) HD.out (HT.out.below hW HT.out.lt) (((HL.out.take _).below hW).mono hW.size) (by rw [List.length_take]; omega) HC2.out ha (by omega) (by rw [List.length_take, Nat.min_eq_left (by omega)]; have h := HLEN.out; rw [lenS_lo _ _ h2 ha] at h; omega)
          rw [List.length_take, Nat.min_eq_left (by omega), ← hX] at h
          rw [HCD.out]; exact h
        obtain ⟨cs, hcs⟩ : ∃ cs, cs = (nodeS X q).map bv := ⟨_, rfl⟩
        have HCS := Lib.hid hcs
        have hln : cs.length = 32 := by rw [hcs, List.length_map]; exact sha_len _
        have hi : (Tryd.prog.info? 26).map (·.size) = some cs.length := by rw [hln]; exact sha_size
        have hone : ∀ v ∈ cs, v.oneCell' = true := by intro v hv; rw [hcs] at hv; obtain ⟨x, _, rfl⟩ := List.mem_map.1 hv; rfl
        have c2 : Hid (∀ W, Below w.heap.size w W → Calls Tryd.prog 35 #[.agg (bvA X), .agg cq.toArray] W fun e w2 => e = .returned (.agg cs.toArray) ∧ Below W.heap.size W w2) := by
          intro W hW
          rw [hcs, HCQ.out]
          exact node_any X q (by rw [hX]; exact climbS_len _ _ _ _) HQL.out W (HT.out.below hW HT.out.lt)
        clear hcs hX htl
        have hpl : (p.length : Int) - 1 = (top : Int) := by have := HTL.out; omega
        have ht0 : (0 : Int) ≤ (top : Int) := by omega
        have ht1 : (top : Int) < (p.length : Int) := by have := HTL.out; omega
        go_enter Tryd.func41, Tryd.ntmps41
        go_wp2_with fail
        refine (split_same n _ h2 (by unfold maxLen; omega)).mono ?_
        rintro e w1 ⟨rfl, hw⟩
        subst hw
        go_wp2_with fail
        change Code.wp _ _ _ _ ((w.alloc (.cells (bvA d) 26)).alloc (.cells (bvA (List.replicate 32 0)) 26))
        obtain ⟨w1, hw1⟩ : ∃ w1, w1 = (w.alloc (.cells (bvA d) 26)).alloc (.cells (bvA (List.replicate 32 0)) 26) := ⟨_, rfl⟩
        have hB1 : Below w.heap.size w w1 := hw1 ▸ ((Below.refl _ _).alloc (Nat.le_refl _) _).alloc (by simp) _
        have hD1 : BB w1 (w.heap.size + 1) 26 (List.replicate 32 0) := hw1 ▸ heap_alloc2_new w _ _
        have hA1 : BB w1 w.heap.size 26 d := hw1 ▸ heap_alloc2_old w _ _
        rw [← hw1]
        clear hw1
        have HB1 := Lib.hid hB1
        have hS1 : w1.drew.rangeAt w.heap.size 0 cd ∧ w1.drew.rangeAt b (o + top * 32) cq ∧ w1.drew.there (w.heap.size + 1) 0 32 := by
          refine ⟨?_, fun i v hv => (hB1.drew.cell (p := ⟨b, _, none⟩) hbB).trans (HQR.out i v hv), hD1.drew.there⟩
          rw [HCD.out]; exact hA1.drew.range
        have hg1 := hD1.lt
        clear hB1 hD1 hA1
        have hu := digest_und
        have KEEP : Hid (∀ W W' : World, W.rangeAt w.heap.size 0 cd ∧ W.rangeAt b (o + top * 32) cq ∧ W.there (w.heap.size + 1) 0 32 → w.heap.size + 1 < W.heap.size → Below W.heap.size W W' → W'.rangeAt w.heap.size 0 cd ∧ W'.rangeAt b (o + top * 32) cq ∧ W'.there (w.heap.size + 1) 0 32) := fun W W' h hz hb =>
          ⟨fun i v hv => (hb.cell (p := ⟨w.heap.size, _, none⟩) (by show w.heap.size < _; omega)).trans (h.1 i v hv), fun i v hv => (hb.cell (p := ⟨b, _, none⟩) (by show b < _; omega)).trans (h.2.1 i v hv), there_below h.2.2 hb hz⟩
        have HLN2 : Hid (cs.toArray.size = 32) := by show _ = _; rw [List.size_toArray]; exact hln
        have KEEPS : Hid (∀ W : World, W.rangeAt w.heap.size 0 cd ∧ W.rangeAt b (o + top * 32) cq ∧ W.there (w.heap.size + 1) 0 32 → (W.setCells (w.heap.size + 1) 0 cs).rangeAt w.heap.size 0 cd ∧ (W.setCells (w.heap.size + 1) 0 cs).rangeAt b (o + top * 32) cq ∧ (W.setCells (w.heap.size + 1) 0 cs).there (w.heap.size + 1) 0 32) := fun W h =>
          ⟨World.rangeAt_setCells_apart h.1 _ _ _ (.inl (by omega)), World.rangeAt_setCells_apart h.2.1 _ _ _ (.inl (by omega)), World.there_setCells h.2.2 _ _ _⟩
        refine wp_region_held_drew (S := fun w' => w'.rangeAt w.heap.size 0 cd ∧ w'.rangeAt b (o + top * 32) cq ∧ w'.there (w.heap.size + 1) 0 32) (by kernel_rfl) hS1 (fun hHeld => ?_)
        refine wpAnyH_take (i := 0) (v := .agg cd.toArray) rfl (by kernel_rfl) (by kernel_rfl) (by kernel_rfl) (fun _ _ _ h => h) (yieldsIf_load_mid (by rfl) 26 (.tmp 4) rfl w.heap.size 0 rfl cd _ (fun _ h => h.1) digest_und rfl hid_) hHeld ?_
        simp only [Act.put, List.getElem_toArray, List.getElem_cons_zero, List.getElem_cons_succ, List.setIfInBounds_toArray, List.set_cons_zero, List.set_cons_succ]
        refine wpAnyH_take (i := 1) (v := .int .i64 at_) rfl (by kernel_rfl) (by kernel_rfl) (by kernel_rfl) (fun _ _ _ h => h) (Or.inl ⟨by rfl, fun w _ => by go_simp⟩) hHeld ?_
        simp only [Act.put, List.getElem_toArray, List.getElem_cons_zero, List.getElem_cons_succ, List.setIfInBounds_toArray, List.set_cons_zero, List.set_cons_succ]
        refine wpAnyH_take (i := 2) (v := .int .i64 (half n)) rfl (by kernel_rfl) (by kernel_rfl) (by kernel_rfl) (fun _ _ _ h => h) (Or.inl ⟨by rfl, fun w _ => by go_simp⟩) hHeld ?_
        simp only [Act.put, List.getElem_toArray, List.getElem_cons_zero, List.getElem_cons_succ, List.setIfInBounds_toArray, List.set_cons_zero, List.set_cons_succ]
        refine wpAnyH_take (i := 3) (v := .slice (some ⟨b, o, none⟩) p.length cap) rfl (by kernel_rfl) (by kernel_rfl) (by kernel_rfl) (fun _ _ _ h => h) (Or.inl ⟨by rfl, fun w _ => by go_simp⟩) hHeld ?_
        simp only [Act.put, List.getElem_toArray, List.getElem_cons_zero, List.getElem_cons_succ, List.setIfInBounds_toArray, List.set_cons_zero, List.set_cons_succ]
        refine wpAnyH_take (i := 4) (v := .int .i64 top) rfl (by kernel_rfl) (by kernel_rfl) (by kernel_rfl) (fun _ _ _ h => h) (Or.inl ⟨by rfl, fun w _ => by go_simp⟩) hHeld ?_
        simp only [Act.put, List.getElem_toArray, List.getElem_cons_zero, List.getElem_cons_succ, List.setIfInBounds_toArray, List.set_cons_zero, List.set_cons_succ]
        refine wpAnyH_take (i := 5) (v := .slice (some ⟨b, o, none⟩) top cap) rfl (by kernel_rfl) (by kernel_rfl) (by kernel_rfl) (fun _ _ _ h => h) (Or.inl ⟨by rfl, fun w _ => by go_simp⟩) hHeld ?_
        simp only [Act.put, List.getElem_toArray, List.getElem_cons_zero, List.getElem_cons_succ, List.setIfInBounds_toArray, List.set_cons_zero, List.set_cons_succ]
        refine wpAnyH_take (i := 7) (v := .slice (some ⟨b, o, none⟩) p.length cap) rfl (by kernel_rfl) (by kernel_rfl) (by kernel_rfl) (fun _ _ _ h => h) (Or.inl ⟨by rfl, fun w _ => by go_simp⟩) hHeld ?_
        simp only [Act.put, List.getElem_toArray, List.getElem_cons_zero, List.getElem_cons_succ, List.setIfInBounds_toArray, List.set_cons_zero, List.set_cons_succ]
        refine wpAnyH_take (i := 8) (v := .int .i64 top) rfl (by kernel_rfl) (by kernel_rfl) (by kernel_rfl) (fun _ _ _ h => h) (Or.inl ⟨by rfl, fun w _ => by go_simp⟩) hHeld ?_
        simp only [Act.put, List.getElem_toArray, List.getElem_cons_zero, List.getElem_cons_succ, List.setIfInBounds_toArray, List.set_cons_zero, List.set_cons_succ]
        refine wpAnyH_take (i := 9) (v := .pointer (some ⟨b, o + top * 32, none⟩)) rfl (by kernel_rfl) (by kernel_rfl) (by kernel_rfl) (fun _ _ _ h => h) (Or.inl ⟨by rfl, fun w _ => by go_simp⟩) hHeld ?_
        simp only [Act.put, List.getElem_toArray, List.getElem_cons_zero, List.getElem_cons_succ, List.setIfInBounds_toArray, List.set_cons_zero, List.set_cons_succ]
        refine wpAnyH_take (i := 10) (v := .agg cq.toArray) rfl (by kernel_rfl) (by kernel_rfl) (by kernel_rfl) (fun _ _ _ h => h) (yieldsIf_load_mid (by rfl) 26 (.tmp 32) rfl b (o + top * 32) rfl cq _ (fun _ h => h.2.1) digest_und rfl hiq) hHeld ?_
        simp only [Act.put, List.getElem_toArray, List.getElem_cons_zero, List.getElem_cons_succ, List.setIfInBounds_toArray, List.set_cons_zero, List.set_cons_succ]
        refine wpAnyH_ready (rs := [6]) (by kernel_rfl) (by simp) (AllReadyH.cons rfl (fun K hK => ?_) AllReadyH.nil)
        go_simp
        refine (c1.out _ ?_).mono ?_
        · exact HB1.out.drew
        rintro e w2 ⟨rfl, hb2⟩
        have hS2 := KEEP.out _ _ hS1 hg1 hb2
        have hz2 : w.heap.size + 1 < w2.heap.size := Nat.lt_of_lt_of_le hg1 hb2.size
        have HB2 := Lib.hid ((HB1.out.drew).trans (hb2.mono HB1.out.size))
        clear hb2
        try go_wp2_with fail
        refine hK.out _ _ hS2 (fun hHeld => ?_)
        clear hK K
        try simp only [Act.put, List.getElem_toArray, List.getElem_cons_zero, List.getElem_cons_succ, List.setIfInBounds_toArray, List.set_cons_zero, List.set_cons_succ]
        refine wpAnyH_ready (rs := [11]) (by kernel_rfl) (by simp) (AllReadyH.cons rfl (fun K hK => ?_) AllReadyH.nil)
        go_simp
        refine (c2.out _ ?_).mono ?_
        · exact HB2.out
        rintro e w3 ⟨rfl, hb3⟩
        have hS3 := KEEP.out _ _ hS2 hz2 hb3
        have HB3 := Lib.hid (HB2.out.trans (hb3.mono HB2.out.size))
        have hz3 : w.heap.size + 1 < w3.heap.size := Nat.lt_of_lt_of_le hz2 hb3.size
        clear hb3
        try go_wp2_with fail
        refine hK.out _ _ hS3 (fun hHeld => ?_)
        clear hK K
        try simp only [Act.put, List.getElem_toArray, List.getElem_cons_zero, List.getElem_cons_succ, List.setIfInBounds_toArray, List.set_cons_zero, List.set_cons_succ]
        refine wpAnyH_ready (rs := [12]) (by kernel_rfl) (by simp) (AllReadyH.cons rfl (fun K hK => ?_) AllReadyH.nil)
        rw [if_pos (by rfl)]
        refine wp_store_mid 26 (.tmp 8) (.tmp 34) rfl (w.heap.size + 1) 0 (List.toArray cs) rfl rfl (by rw [HLN2.out]; exact hS3.2.2) (by rw [HLN2.out]; exact sha_size) (all_oneCell_toArray hone) ?_
        simp only [Act.put, List.getElem_toArray, List.getElem_cons_zero, List.getElem_cons_succ, List.setIfInBounds_toArray, List.set_cons_zero, List.set_cons_succ, List.toList_toArray]
        refine hK.out _ _ (KEEPS.out _ hS3) (fun hHeld => ?_)
        clear hK K
        refine wpAnyH_done (by kernel_rfl) ?_ _
        have hR4 := World.rangeAt_setCells_same w3 (w.heap.size + 1) 0 cs (by rw [hln]; exact hS3.2.2)
        have hB5 := grown_below HB3.out (grown_setCells cs 0 w3 (grown_refl w3 (w.heap.size + 1))) (Nat.le_succ _) HB3.out.size
        clear hS1 hS2 hS3 hHeld
        go_wp2_with fail
        refine bodyPost_ret (v := .agg cs.toArray) ?_ rfl ⟨by rw [HCS.out]; rfl, hB5⟩
        exact results_cell_mid rfl _ _ (w.heap.size + 1) 0 cs _ rfl hR4 hu rfl hi
      · have HS : Hid (climbS d at_ n p = nodeS q (climbS d (at_ - half n) (n - half n) (p.take top))) := by show _ = _; rw [climbS_hi _ _ _ _ h2 (by omega), ← HTOP.out, HQ.out]
        obtain ⟨X, hX⟩ : ∃ X, X = climbS d (at_ - half n) (n - half n) (p.take top) := ⟨_, rfl⟩
        rw [← hX] at HS
        rw [HS.out]
        have c1 : Hid (∀ W, Below w.heap.size w W → Calls Tryd.prog 41 #[.agg cd.toArray, .int .i64 ((at_ : Int) - (half n : Nat)), .int .i64 ((n : Int) - (half n : Nat)), .slice (some ⟨b, o, none⟩) top cap] W fun e w2 => e = .returned (.agg (bvA X)) ∧ Below W.heap.size W w2) := by
          intro W hW
          have h := ih d (at_ - half n) (n - half n) (some ⟨b, o, none⟩) cap (p.take top) W (by omega) HD.out (HT.out.below hW HT.out.lt) (((HL.out.take _).below hW).mono hW.size) (by rw [List.length_take]; omega) HC2.out (by omega) (by omega) (by rw [List.length_take, Nat.min_eq_left (by omega)]; have h := HLEN.out; rw [lenS_hi _ _ h2 (by omega)] at h; omega)
          rw [List.length_take, Nat.min_eq_left (by omega), ← hX, Int.ofNat_sub (by omega), Int.ofNat_sub (by omega)] at h
          rw [HCD.out]; exact h
        obtain ⟨cs, hcs⟩ : ∃ cs, cs = (nodeS q X).map bv := ⟨_, rfl⟩
        have HCS := Lib.hid hcs
        have hln : cs.length = 32 := by rw [hcs, List.length_map]; exact sha_len _
        have hi : (Tryd.prog.info? 26).map (·.size) = some cs.length := by rw [hln]; exact sha_size
        have hone : ∀ v ∈ cs, v.oneCell' = true := by intro v hv; rw [hcs] at hv; obtain ⟨x, _, rfl⟩ := List.mem_map.1 hv; rfl
        have c2 : Hid (∀ W, Below w.heap.size w W → Calls Tryd.prog 35 #[.agg cq.toArray, .agg (bvA X)] W fun e w2 => e = .returned (.agg cs.toArray) ∧ Below W.heap.size W w2) := by
          intro W hW
          rw [hcs, HCQ.out]
          exact node_any q X HQL.out (by rw [hX]; exact climbS_len _ _ _ _) W (HT.out.below hW HT.out.lt)
        clear hcs hX htl
        have hwr1 : IntKind.i64.wrap ((at_ : Int) - (half n : Nat)) = (at_ : Int) - (half n : Nat) := IntWalk.i64_in _ (by omega)
        have hwr2 : IntKind.i64.wrap ((n : Int) - (half n : Nat)) = (n : Int) - (half n : Nat) := IntWalk.i64_in _ (by omega)
        have hge : (half n : Int) ≤ (at_ : Int) := by omega
        have hpl : (p.length : Int) - 1 = (top : Int) := by have := HTL.out; omega
        have ht0 : (0 : Int) ≤ (top : Int) := by omega
        have ht1 : (top : Int) < (p.length : Int) := by have := HTL.out; omega
        go_enter Tryd.func41, Tryd.ntmps41
        go_wp2_with fail
        refine (split_same n _ h2 (by unfold maxLen; omega)).mono ?_
        rintro e w1 ⟨rfl, hw⟩
        subst hw
        go_wp2_with fail
        change Code.wp _ _ _ _ ((w.alloc (.cells (bvA d) 26)).alloc (.cells (bvA (List.replicate 32 0)) 26))
        obtain ⟨w1, hw1⟩ : ∃ w1, w1 = (w.alloc (.cells (bvA d) 26)).alloc (.cells (bvA (List.replicate 32 0)) 26) := ⟨_, rfl⟩
        have hB1 : Below w.heap.size w w1 := hw1 ▸ ((Below.refl _ _).alloc (Nat.le_refl _) _).alloc (by simp) _
        have hD1 : BB w1 (w.heap.size + 1) 26 (List.replicate 32 0) := hw1 ▸ heap_alloc2_new w _ _
        have hA1 : BB w1 w.heap.size 26 d := hw1 ▸ heap_alloc2_old w _ _
        rw [← hw1]
        clear hw1
        have HB1 := Lib.hid hB1
        have hS1 : w1.drew.rangeAt w.heap.size 0 cd ∧ w1.drew.rangeAt b (o + top * 32) cq ∧ w1.drew.there (w.heap.size + 1) 0 32 := by
          refine ⟨?_, fun i v hv => (hB1.drew.cell (p := ⟨b, _, none⟩) hbB).trans (HQR.out i v hv), hD1.drew.there⟩
          rw [HCD.out]; exact hA1.drew.range
        have hg1 := hD1.lt
        clear hB1 hD1 hA1
        have hu := digest_und
        have KEEP : Hid (∀ W W' : World, W.rangeAt w.heap.size 0 cd ∧ W.rangeAt b (o + top * 32) cq ∧ W.there (w.heap.size + 1) 0 32 → w.heap.size + 1 < W.heap.size → Below W.heap.size W W' → W'.rangeAt w.heap.size 0 cd ∧ W'.rangeAt b (o + top * 32) cq ∧ W'.there (w.heap.size + 1) 0 32) := fun W W' h hz hb =>
          ⟨fun i v hv => (hb.cell (p := ⟨w.heap.size, _, none⟩) (by show w.heap.size < _; omega)).trans (h.1 i v hv), fun i v hv => (hb.cell (p := ⟨b, _, none⟩) (by show b < _; omega)).trans (h.2.1 i v hv), there_below h.2.2 hb hz⟩
        have HLN2 : Hid (cs.toArray.size = 32) := by show _ = _; rw [List.size_toArray]; exact hln
        have KEEPS : Hid (∀ W : World, W.rangeAt w.heap.size 0 cd ∧ W.rangeAt b (o + top * 32) cq ∧ W.there (w.heap.size + 1) 0 32 → (W.setCells (w.heap.size + 1) 0 cs).rangeAt w.heap.size 0 cd ∧ (W.setCells (w.heap.size + 1) 0 cs).rangeAt b (o + top * 32) cq ∧ (W.setCells (w.heap.size + 1) 0 cs).there (w.heap.size + 1) 0 32) := fun W h =>
          ⟨World.rangeAt_setCells_apart h.1 _ _ _ (.inl (by omega)), World.rangeAt_setCells_apart h.2.1 _ _ _ (.inl (by omega)), World.there_setCells h.2.2 _ _ _⟩
        refine wp_region_held_drew (S := fun w' => w'.rangeAt w.heap.size 0 cd ∧ w'.rangeAt b (o + top * 32) cq ∧ w'.there (w.heap.size + 1) 0 32) (by kernel_rfl) hS1 (fun hHeld => ?_)
        refine wpAnyH_take (i := 0) (v := .slice (some ⟨b, o, none⟩) p.length cap) rfl (by kernel_rfl) (by kernel_rfl) (by kernel_rfl) (fun _ _ _ h => h) (Or.inl ⟨by rfl, fun w _ => by go_simp⟩) hHeld ?_
        simp only [Act.put, List.getElem_toArray, List.getElem_cons_zero, List.getElem_cons_succ, List.setIfInBounds_toArray, List.set_cons_zero, List.set_cons_succ]
        refine wpAnyH_take (i := 1) (v := .int .i64 top) rfl (by kernel_rfl) (by kernel_rfl) (by kernel_rfl) (fun _ _ _ h => h) (Or.inl ⟨by rfl, fun w _ => by go_simp⟩) hHeld ?_
        simp only [Act.put, List.getElem_toArray, List.getElem_cons_zero, List.getElem_cons_succ, List.setIfInBounds_toArray, List.set_cons_zero, List.set_cons_succ]
        refine wpAnyH_take (i := 2) (v := .pointer (some ⟨b, o + top * 32, none⟩)) rfl (by kernel_rfl) (by kernel_rfl) (by kernel_rfl) (fun _ _ _ h => h) (Or.inl ⟨by rfl, fun w _ => by go_simp⟩) hHeld ?_
        simp only [Act.put, List.getElem_toArray, List.getElem_cons_zero, List.getElem_cons_succ, List.setIfInBounds_toArray, List.set_cons_zero, List.set_cons_succ]
        refine wpAnyH_take (i := 3) (v := .agg cq.toArray) rfl (by kernel_rfl) (by kernel_rfl) (by kernel_rfl) (fun _ _ _ h => h) (yieldsIf_load_mid (by rfl) 26 (.tmp 37) rfl b (o + top * 32) rfl cq _ (fun _ h => h.2.1) digest_und rfl hiq) hHeld ?_
        simp only [Act.put, List.getElem_toArray, List.getElem_cons_zero, List.getElem_cons_succ, List.setIfInBounds_toArray, List.set_cons_zero, List.set_cons_succ]
        refine wpAnyH_take (i := 4) (v := .agg cd.toArray) rfl (by kernel_rfl) (by kernel_rfl) (by kernel_rfl) (fun _ _ _ h => h) (yieldsIf_load_mid (by rfl) 26 (.tmp 4) rfl w.heap.size 0 rfl cd _ (fun _ h => h.1) digest_und rfl hid_) hHeld ?_
        simp only [Act.put, List.getElem_toArray, List.getElem_cons_zero, List.getElem_cons_succ, List.setIfInBounds_toArray, List.set_cons_zero, List.set_cons_succ]
        refine wpAnyH_take (i := 5) (v := .int .i64 at_) rfl (by kernel_rfl) (by kernel_rfl) (by kernel_rfl) (fun _ _ _ h => h) (Or.inl ⟨by rfl, fun w _ => by go_simp⟩) hHeld ?_
        simp only [Act.put, List.getElem_toArray, List.getElem_cons_zero, List.getElem_cons_succ, List.setIfInBounds_toArray, List.set_cons_zero, List.set_cons_succ]
        refine wpAnyH_take (i := 6) (v := .int .i64 (half n)) rfl (by kernel_rfl) (by kernel_rfl) (by kernel_rfl) (fun _ _ _ h => h) (Or.inl ⟨by rfl, fun w _ => by go_simp⟩) hHeld ?_
        simp only [Act.put, List.getElem_toArray, List.getElem_cons_zero, List.getElem_cons_succ, List.setIfInBounds_toArray, List.set_cons_zero, List.set_cons_succ]
        refine wpAnyH_take (i := 7) (v := .int .i64 ((at_ : Int) - (half n : Nat))) rfl (by kernel_rfl) (by kernel_rfl) (by kernel_rfl) (fun _ _ _ h => h) (Or.inl ⟨by rfl, fun w _ => by go_simp⟩) hHeld ?_
        simp only [Act.put, List.getElem_toArray, List.getElem_cons_zero, List.getElem_cons_succ, List.setIfInBounds_toArray, List.set_cons_zero, List.set_cons_succ]
        refine wpAnyH_take (i := 8) (v := .int .i64 n) rfl (by kernel_rfl) (by kernel_rfl) (by kernel_rfl) (fun _ _ _ h => h) (Or.inl ⟨by rfl, fun w _ => by go_simp⟩) hHeld ?_
        simp only [Act.put, List.getElem_toArray, List.getElem_cons_zero, List.getElem_cons_succ, List.setIfInBounds_toArray, List.set_cons_zero, List.set_cons_succ]
        refine wpAnyH_take (i := 9) (v := .int .i64 (half n)) rfl (by kernel_rfl) (by kernel_rfl) (by kernel_rfl) (fun _ _ _ h => h) (Or.inl ⟨by rfl, fun w _ => by go_simp⟩) hHeld ?_
        simp only [Act.put, List.getElem_toArray, List.getElem_cons_zero, List.getElem_cons_succ, List.setIfInBounds_toArray, List.set_cons_zero, List.set_cons_succ]
        refine wpAnyH_take (i := 10) (v := .int .i64 ((n : Int) - (half n : Nat))) rfl (by kernel_rfl) (by kernel_rfl) (by kernel_rfl) (fun _ _ _ h => h) (Or.inl ⟨by rfl, fun w _ => by go_simp⟩) hHeld ?_
        simp only [Act.put, List.getElem_toArray, List.getElem_cons_zero, List.getElem_cons_succ, List.setIfInBounds_toArray, List.set_cons_zero, List.set_cons_succ]
        refine wpAnyH_take (i := 11) (v := .slice (some ⟨b, o, none⟩) p.length cap) rfl (by kernel_rfl) (by kernel_rfl) (by kernel_rfl) (fun _ _ _ h => h) (Or.inl ⟨by rfl, fun w _ => by go_simp⟩) hHeld ?_
        simp only [Act.put, List.getElem_toArray, List.getElem_cons_zero, List.getElem_cons_succ, List.setIfInBounds_toArray, List.set_cons_zero, List.set_cons_succ]
        refine wpAnyH_take (i := 12) (v := .int .i64 top) rfl (by kernel_rfl) (by kernel_rfl) (by kernel_rfl) (fun _ _ _ h => h) (Or.inl ⟨by rfl, fun w _ => by go_simp⟩) hHeld ?_
        simp only [Act.put, List.getElem_toArray, List.getElem_cons_zero, List.getElem_cons_succ, List.setIfInBounds_toArray, List.set_cons_zero, List.set_cons_succ]
        refine wpAnyH_take (i := 13) (v := .slice (some ⟨b, o, none⟩) top cap) rfl (by kernel_rfl) (by kernel_rfl) (by kernel_rfl) (fun _ _ _ h => h) (Or.inl ⟨by rfl, fun w _ => by go_simp⟩) hHeld ?_
        simp only [Act.put, List.getElem_toArray, List.getElem_cons_zero, List.getElem_cons_succ, List.setIfInBounds_toArray, List.set_cons_zero, List.set_cons_succ]
        refine wpAnyH_ready (rs := [14]) (by kernel_rfl) (by simp) (AllReadyH.cons rfl (fun K hK => ?_) AllReadyH.nil)
        go_simp
        refine (c1.out _ ?_).mono ?_
        · exact HB1.out.drew
        rintro e w2 ⟨rfl, hb2⟩
        have hS2 := KEEP.out _ _ hS1 hg1 hb2
        have hz2 : w.heap.size + 1 < w2.heap.size := Nat.lt_of_lt_of_le hg1 hb2.size
        have HB2 := Lib.hid ((HB1.out.drew).trans (hb2.mono HB1.out.size))
        clear hb2
        try go_wp2_with fail
        refine hK.out _ _ hS2 (fun hHeld => ?_)
        clear hK K
        try simp only [Act.put, List.getElem_toArray, List.getElem_cons_zero, List.getElem_cons_succ, List.setIfInBounds_toArray, List.set_cons_zero, List.set_cons_succ]
        refine wpAnyH_ready (rs := [15]) (by kernel_rfl) (by simp) (AllReadyH.cons rfl (fun K hK => ?_) AllReadyH.nil)
        go_simp
        refine (c2.out _ ?_).mono ?_
        · exact HB2.out
        rintro e w3 ⟨rfl, hb3⟩
        have hS3 := KEEP.out _ _ hS2 hz2 hb3
        have HB3 := Lib.hid (HB2.out.trans (hb3.mono HB2.out.size))
        have hz3 : w.heap.size + 1 < w3.heap.size := Nat.lt_of_lt_of_le hz2 hb3.size
        clear hb3
        try go_wp2_with fail
        refine hK.out _ _ hS3 (fun hHeld => ?_)
        clear hK K
        try simp only [Act.put, List.getElem_toArray, List.getElem_cons_zero, List.getElem_cons_succ, List.setIfInBounds_toArray, List.set_cons_zero, List.set_cons_succ]
        refine wpAnyH_ready (rs := [16]) (by kernel_rfl) (by simp) (AllReadyH.cons rfl (fun K hK => ?_) AllReadyH.nil)
        rw [if_pos (by rfl)]
        refine wp_store_mid 26 (.tmp 8) (.tmp 50) rfl (w.heap.size + 1) 0 (List.toArray cs) rfl rfl (by rw [HLN2.out]; exact hS3.2.2) (by rw [HLN2.out]; exact sha_size) (all_oneCell_toArray hone) ?_
        simp only [Act.put, List.getElem_toArray, List.getElem_cons_zero, List.getElem_cons_succ, List.setIfInBounds_toArray, List.set_cons_zero, List.set_cons_succ, List.toList_toArray]
        refine hK.out _ _ (KEEPS.out _ hS3) (fun hHeld => ?_)
        clear hK K
        refine wpAnyH_done (by kernel_rfl) ?_ _
        have hR4 := World.rangeAt_setCells_same w3 (w.heap.size + 1) 0 cs (by rw [hln]; exact hS3.2.2)
        have hB5 := grown_below HB3.out (grown_setCells cs 0 w3 (grown_refl w3 (w.heap.size + 1))) (Nat.le_succ _) HB3.out.size
        clear hS1 hS2 hS3 hHeld
        go_wp2_with fail
        refine bodyPost_ret (v := .agg cs.toArray) ?_ rfl ⟨by rw [HCS.out]; rfl, hB5⟩
        exact results_cell_mid rfl _ _ (w.heap.size + 1) 0 cs _ rfl hR4 hu rfl hi
end Go.Proofs.YtndbhmipehpebaaDoor
