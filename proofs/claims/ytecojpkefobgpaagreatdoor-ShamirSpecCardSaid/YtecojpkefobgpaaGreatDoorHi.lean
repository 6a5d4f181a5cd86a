/-
  Package shamir: Sum.
-/
import Derived.Test.YtecojpkefobgpaaGreatDoorHh
namespace Go.Proofs.YtecojpkefobgpaaGreatDoor
open Go.RowKit
set_option linter.unusedVariables false
set_option linter.unusedSimpArgs false

/-- Whether shares are at the same places. -/
def plEq (l m : List Sh) : Bool := decide (l.map (·.1) = m.map (·.1))
/-- The sums of shares. -/
def sumS (l m : List Sh) : List Sh := List.zipWith (fun s t => (s.1, (((s.2.toNat + t.2.toNat) % 2305843009213688669 : Nat) : Int))) l m
theorem plEq_len {l m : List Sh} (h : plEq l m = true) : l.length = m.length := by
  have := congrArg List.length (of_decide_eq_true h)
  simpa using this
theorem plEq_cons (s t : Sh) (l m : List Sh) : plEq (s :: l) (t :: m) = (s.1 == t.1 && plEq l m) := by
  unfold plEq
  rw [Bool.eq_iff_iff, decide_eq_true_eq, Bool.and_eq_true, beq_iff_eq, decide_eq_true_eq, List.map_cons, List.map_cons, List.cons.injEq]

set_option maxRecDepth 100000 in
set_option maxHeartbeats 2000000 in
theorem places_any (a : Option Addr) (cap : Nat) (l : List Sh) (a' : Option Addr) (cap' : Nat) (m : List Sh) (w : World) (hl : RdS w.heap.size w a l) (hm : RdS w.heap.size w a' m) (h64 : l.length ≤ 64) (hm64 : m.length ≤ 64) :
    Calls Tryz.prog 26 #[.slice a l.length cap, .slice a' m.length cap', .func (.func 27) #[] #[]] w fun e w' => e = .returned (.bool (plEq l m)) ∧ Below w.heap.size w w' := by
  have HB0 := Lib.hid (Below.refl w.heap.size w)
  by_cases hne : l.length = m.length
  · have f1 : ((l.length : Int) != (m.length : Int)) = false := by rw [hne]; simp
    obtain ⟨C, hC⟩ : ∃ C, plEq l m = C := ⟨_, rfl⟩
    rw [hC]
    have HC0 : Hid (plEq (l.drop 0) (m.drop 0) = C) := Lib.hid hC
    have HL := Lib.hid hl
    have HM := Lib.hid hm
    have KT := Lib.hid (fun s t w => together_any s t w)
    obtain ⟨n, hn⟩ : ∃ n, l.length = n := ⟨_, rfl⟩
    have hmn : m.length = n := by omega
    have HN := Lib.hid hn
    have HMN := Lib.hid hmn
    rw [hn] at h64 f1 ⊢
    rw [hmn] at f1 ⊢
    clear hl hm hn hmn hne hC
    go_enter Tryz.func26, Tryz.ntmps26
    go_wp2_with fail
    go_loopw [17] (fun i wr => ∃ j : Nat, j ≤ n ∧ i = .int .i64 j ∧ plEq (l.drop j) (m.drop j) = C ∧ Below w.heap.size w wr) (fun i _ => n - (intOf i).toNat)
    case atStart => exact ⟨0, by omega, rfl, HC0.out, HB0.out⟩
    case round =>
      clear HC0 HB0
      obtain ⟨j, hj, rfl, hq, hb⟩ := hrel
      have HB := Lib.hid hb
      by_cases hlt : j < n
      · have hjl : j < l.length := by rw [HN.out]; exact hlt
        have hjm : j < m.length := by rw [HMN.out]; exact hlt
        obtain ⟨b, o, rfl, hbB, hc⟩ := HL.out.at_ (by omega)
        obtain ⟨b', o', rfl, hbB', hc'⟩ := HM.out.at_ (by omega)
        obtain ⟨c0, c1⟩ := hc j hjl
        obtain ⟨c0', c1'⟩ := hc' j hjm
        have d0 := (hb.cell (p := ⟨b, o + j * 2, none⟩) hbB).trans c0
        have d1 := (hb.cell (p := ⟨b, o + j * 2 + 1, none⟩) hbB).trans c1
        rw [List.drop_eq_getElem_cons hjl, List.drop_eq_getElem_cons hjm, plEq_cons] at hq
        have HQ := Lib.hid hq
        have KT2 := Lib.hid (KT.out l[j] m[j])
        generalize l[j] = s at *
        generalize m[j] = t at *
        obtain ⟨s0, s1⟩ := s
        obtain ⟨t0, t1⟩ := t
        have hB1 : Below w.heap.size w (wr.alloc (.cells #[.int .i64 s0, .int .i64 s1] 40)) := hb.alloc hb.size _
        have e0 := (hB1.cell (p := ⟨b', o' + j * 2, none⟩) hbB').trans c0'
        have e1 := (hB1.cell (p := ⟨b', o' + j * 2 + 1, none⟩) hbB').trans c1'
        have hSH1 := SH.new wr (s0, s1)
        have hSH2 := hSH1.alloc (.cells #[.int .i64 t0, .int .i64 t1] 40)
        have g0 := hSH2.cell0
        have g1 := hSH2.cell1
        have HB2 : Hid (Below w.heap.size w ((wr.alloc (.cells #[.int .i64 s0, .int .i64 s1] 40)).alloc (.cells #[.int .i64 t0, .int .i64 t1] 40))) := Lib.hid (hB1.alloc hB1.size _)
        have KT3 : Hid (∀ w, Calls Tryz.prog 27 #[.agg #[.int .i64 s0, .int .i64 s1], .agg #[.int .i64 t0, .int .i64 t1]] w fun e w' => e = .returned (.bool (s0 == t0)) ∧ Below w.heap.size w w') := KT2
        have HQ2 : Hid ((s0 == t0 && plEq (l.drop (j + 1)) (m.drop (j + 1))) = C) := HQ
        clear hc hc' c0 c1 c0' c1' hb hq HQ KT2 KT hSH1 hSH2 hB1
        cases hst : (s0 == t0)
        · rw [hst, Bool.false_and] at HQ2
          rw [hst] at KT3
          go_wp2_with (go_at_call 27; with_reducible refine (KT3.out _).mono ?_; rintro e w3 ⟨rfl, hb3⟩; have HB3 := Lib.hid (HB2.out.trans (hb3.mono HB2.out.size)); clear hb3 HB2)
          go_ret
          exact ⟨by rw [← HQ2.out]; rfl, HB3.out⟩
        · rw [hst, Bool.true_and] at HQ2
          rw [hst] at KT3
          go_wp2_with (go_at_call 27; with_reducible refine (KT3.out _).mono ?_; rintro e w3 ⟨rfl, hb3⟩; have HB3 := Lib.hid (HB2.out.trans (hb3.mono HB2.out.size)); clear hb3 HB2)
          go_roundw
          case rel => exact ⟨j + 1, by omega, by go_num, HQ2.out, HB3.out⟩
          case measure => simp [intOf]; omega
      · obtain rfl : j = n := by omega
        have HF : Hid (true = C) := Lib.hid (by
          have h1 := HN.out
          have h2 := HMN.out
          rw [← hq, List.drop_eq_nil_of_le (by omega), List.drop_eq_nil_of_le (by omega)]; rfl)
        clear hq
        go_wp2_with fail
        go_ret
        exact ⟨by rw [← HF.out]; rfl, HB.out⟩
  · have f1 : ((l.length : Int) != (m.length : Int)) = true := by simp; omega
    have hF : plEq l m = false := by
      cases h : plEq l m
      · rfl
      · exact absurd (plEq_len h) hne
    rw [hF]
    clear hF hne
    generalize l.length = n at *
    generalize m.length = n' at *
    go_enter Tryz.func26, Tryz.ntmps26
    go_wp2_with fail
    go_ret
    exact ⟨rfl, HB0.out⟩

theorem step_appShr1 {ops : Array Oper} {o : Oper} {a : Act} {w : World} {K : Act → World → Prop} {Q : Exit → Act → World → Prop} {E : Prop} (hgd : o.guard = none) (s x : Operand)
    (ho : o.op = .call { callee := .builtin .append, args := #[s, x], argTypes := #[22, 22] })
    (B : Nat) (v : Value) (l : List Sh) (t : Sh) (w0 : World) (g : Nat) (hs : a.eval s = v) (hown : OwnS B w0 v l) (hx : a.eval x = .slice (some ⟨g, 0, none⟩) 1 1) (hg : g = w0.heap.size)
    (hw : w = w0.alloc (.cells #[.int .i64 t.1, .int .i64 t.2] 40)) (hlen : l.length ≤ 1000000) (hB : B ≤ w0.heap.size)
    (h : ∀ v' w', OwnS B w' v' (l ++ [t]) → Below B w0 w' → (∀ k, k < w0.heap.size → v.ownBlock ≠ some k → w'.heap[k]? = w0.heap[k]?) → K (a.put o.dst v') w') : if Region.wanted o (yielded ops a.tmps) = true then Oper.wp Tryz.prog o a w K Q else E := by
  have hwt : Region.wanted o (yielded ops a.tmps) = true := by simp [Region.wanted, hgd]
  rw [if_pos hwt]
  subst hg
  subst hw
  refine wp_appShr s x ho B v l [t] (some ⟨w0.heap.size, 0, none⟩) 1 hs (hown.alloc _) hx (by rw [World.size_alloc]; exact RdS.one t) (fun e => by cases e) (by simp only [List.length_singleton]; omega) (le_alloc hB _) fun v' w' h2 h3 => h v' w' h2 ?_ fun k hk hv => ?_
  · exact ((Below.refl _ _).alloc hB _).trans (h3.below hown.base (le_alloc hB _))
  · exact (h3.grown.block k (by rw [World.size_alloc]; omega) (Ne.symm hv)).trans (Below.heap_alloc w0 _ k hk)
theorem sumS_len (l m : List Sh) : (sumS l m).length = min l.length m.length := by unfold sumS; rw [List.length_zipWith]
theorem sumS_take (l m : List Sh) (j : Nat) (h1 : j < l.length) (h2 : j < m.length) : (sumS l m).take (j + 1) = (sumS l m).take j ++ [(l[j].1, (((l[j].2.toNat + m[j].2.toNat) % 2305843009213688669 : Nat) : Int))] := by
  have h : j < (sumS l m).length := by rw [sumS_len]; omega
  rw [List.take_succ_eq_append_getElem h]
  congr 2
  simp only [sumS, List.getElem_zipWith]
theorem nat_sc {a : Int} (h : scal a = true) : ∃ n : Nat, a = (n : Int) ∧ n < 2305843009213688669 := ⟨a.toNat, by have := scal_of h; omega, by have := scal_of h; omega⟩

set_option maxRecDepth 100000 in
set_option maxHeartbeats 4000000 in
theorem Sum_ok (a : Option Addr) (cap : Nat) (l : List Sh) (a' : Option Addr) (cap' : Nat) (m : List Sh) (w : World) (hl : RdS w.heap.size w a l) (hm : RdS w.heap.size w a' m) (hok : okS l = true) (hok' : okS m = true) (hpl : plEq l m = true) :
    Calls Tryz.prog 16 #[.slice a l.length cap, .slice a' m.length cap'] w fun e w' => ∃ v, e = .returned (.tuple #[v, .int .i64 0]) ∧ OwnS w.heap.size w' v (sumS l m) ∧ Below w.heap.size w w' := by
  obtain ⟨h1, h2, h3⟩ := okS_out hok
  obtain ⟨k1, k2, k3⟩ := okS_out hok'
  have K1 := Lib.hid (sCheck_any a cap l w hl)
  have K2 := Lib.hid (fun W (h : Below w.heap.size w W) => sCheck_any a' cap' m W (hm.call h))
  have K3 := Lib.hid (fun W (h : Below w.heap.size w W) => places_any a cap l a' cap' m W (hl.call h) (hm.call h) h2 k2)
  rw [hok] at K1
  rw [hok'] at K2
  rw [hpl] at K3
  have hmn := (plEq_len hpl).symm
  have HL := Lib.hid hl
  have HM := Lib.hid hm
  have HS1 := Lib.hid (fun s hs => (chkL_at (l := l) h3 s hs).2.2)
  have HS2 := Lib.hid (fun s hs => (chkL_at (l := m) k3 s hs).2.2)
  have HTK := Lib.hid (sumS_take l m)
  have HTN : Hid ((sumS l m).take l.length = sumS l m) := Lib.hid (List.take_of_length_le (by rw [sumS_len]; omega))
  have HO0 : Hid (∀ W, OwnS w.heap.size W (.slice none 0 0) ((sumS l m).take 0)) := Lib.hid (fun W => OwnS.nil _ _)
  obtain ⟨n, hn⟩ : ∃ n, l.length = n := ⟨_, rfl⟩
  rw [hn] at hmn
  have HN := Lib.hid hn
  have HMN := Lib.hid hmn
  have hn64 : n ≤ 64 := by omega
  rw [hn] at K1 K3 HTN ⊢
  rw [hmn] at K2 K3 ⊢
  clear hok hok' hpl hl hm h1 h2 h3 k1 k2 k3 hn hmn
  go_enter Tryz.func16, Tryz.ntmps16
  go_wp2_with (first
    | (go_at_call 12; with_reducible refine K1.out.mono ?_; rintro e w2 ⟨rfl, hb⟩; have HB2 := Lib.hid hb; clear hb)
    | (go_at_call 12; with_reducible refine (K2.out _ HB2.out).mono ?_; rintro e w3 ⟨rfl, hb⟩; have HB3 := Lib.hid (HB2.out.trans (hb.mono HB2.out.size)); clear hb)
    | (go_at_call 26; with_reducible refine (K3.out _ HB3.out).mono ?_; rintro e w4 ⟨rfl, hb⟩; have HB4 := Lib.hid (HB3.out.trans (hb.mono HB3.out.size)); clear hb HB3 HB2))
  clear K1 K2 K3
  go_loopw [4, 24] (fun v i wr => ∃ j : Nat, j ≤ n ∧ i = .int .i64 j ∧ OwnS w.heap.size wr v ((sumS l m).take j) ∧ Below w.heap.size w wr) (fun _ i _ => n - (intOf i).toNat)
  case atStart => exact ⟨0, by omega, rfl, HO0.out _, HB4.out⟩
  case round =>
    clear HO0 HB4
    obtain ⟨j, hj, rfl, ho, hb⟩ := hrel
    have HB := Lib.hid hb
    have HO := Lib.hid ho
    by_cases hlt : j < n
    · have hjl : j < l.length := by rw [HN.out]; exact hlt
      have hjm : j < m.length := by rw [HMN.out]; exact hlt
      obtain ⟨b, o, rfl, hbB, hc⟩ := HL.out.at_ (by omega)
      obtain ⟨b', o', rfl, hbB', hc'⟩ := HM.out.at_ (by omega)
      obtain ⟨c0, c1⟩ := hc j hjl
      obtain ⟨c0', c1'⟩ := hc' j hjm
      have d0 := (hb.cell (p := ⟨b, o + j * 2, none⟩) hbB).trans c0
      have d1 := (hb.cell (p := ⟨b, o + j * 2 + 1, none⟩) hbB).trans c1
      have s1 := nat_sc (HS1.out _ (List.getElem_mem hjl))
      have s2 := nat_sc (HS2.out _ (List.getElem_mem hjm))
      have HTj := Lib.hid (HTK.out j hjl hjm)
      generalize l[j] = s at *
      generalize m[j] = t at *
      obtain ⟨s0, s1'⟩ := s
      obtain ⟨t0, t1'⟩ := t
      obtain ⟨y, hy, hyl⟩ := s1
      obtain ⟨z, hz, hzl⟩ := s2
      obtain rfl : s1' = (y : Int) := hy
      obtain rfl : t1' = (z : Int) := hz
      have HTj2 : Hid ((sumS l m).take (j + 1) = (sumS l m).take j ++ [(s0, (((y + z) % 2305843009213688669 : Nat) : Int))]) := Lib.hid (by rw [HTj.out]; simp only [Int.toNat_natCast])
      have KP := Lib.hid (fun W => plus_any y z hyl hzl W)
      have HLk : Hid (((sumS l m).take j).length ≤ 1000000) := Lib.hid (by rw [List.length_take]; omega)
      generalize (y + z) % 2305843009213688669 = r at *
      have hB1 : Below w.heap.size w (wr.alloc (.cells #[.int .i64 s0, .int .i64 (y : Int)] 40)) := hb.alloc hb.size _
      have e1 := (hB1.cell (p := ⟨b', o' + j * 2 + 1, none⟩) hbB').trans c1'
      have HB1 := Lib.hid hB1
      have hSH1 := SH.new wr (s0, (y : Int))
      have hO1 := ho.alloc (.cells #[.int .i64 s0, .int .i64 (y : Int)] 40)
      have HO1 := Lib.hid hO1
      have HNB := Lib.hid ho.lt
      clear hc hc' c0 c1 c0' c1' hb ho hB1 HTj HTK hO1 HO
      go_wp2_with fail
      have hS1 : (wr.alloc (.cells #[.int .i64 s0, .int .i64 (y : Int)] 40)).cell? ⟨wr.heap.size, 0, none⟩ = some (.int .i64 s0) ∧ (wr.alloc (.cells #[.int .i64 s0, .int .i64 (y : Int)] 40)).cell? ⟨wr.heap.size, 1, none⟩ = some (.int .i64 (y : Int)) ∧ (wr.alloc (.cells #[.int .i64 s0, .int .i64 (y : Int)] 40)).cell? ⟨b', o' + j * 2 + 1, none⟩ = some (.int .i64 (z : Int)) := ⟨hSH1.cell0, hSH1.cell1, e1⟩
      have HZ1 : Hid (wr.heap.size < (wr.alloc (.cells #[.int .i64 s0, .int .i64 (y : Int)] 40)).heap.size ∧ b' < (wr.alloc (.cells #[.int .i64 s0, .int .i64 (y : Int)] 40)).heap.size) := Lib.hid ⟨hSH1.lt, Nat.lt_of_lt_of_le hbB' HB1.out.size⟩
      obtain ⟨w0, hw0⟩ : ∃ w0, w0 = wr.alloc (.cells #[.int .i64 s0, .int .i64 (y : Int)] 40) := ⟨_, rfl⟩
      rw [← hw0] at HB1 hS1 HZ1 HO1 ⊢
      clear hw0 hSH1 d0 d1 e1
      go_region_held3 (fun w' => w'.cell? ⟨wr.heap.size, 0, none⟩ = some (.int .i64 s0) ∧ w'.cell? ⟨wr.heap.size, 1, none⟩ = some (.int .i64 (y : Int)) ∧ w'.cell? ⟨b', o' + j * 2 + 1, none⟩ = some (.int .i64 (z : Int)))
        (first
          | exact hS4
          | exact hS3
          | exact hS2
          | exact hS1)
        (first
          | (go_at_call 28
             with_reducible refine (KP.out _).mono ?_
             rintro e w2 ⟨rfl, hb⟩
             have hS2 : w2.cell? ⟨wr.heap.size, 0, none⟩ = some (.int .i64 s0) ∧ w2.cell? ⟨wr.heap.size, 1, none⟩ = some (.int .i64 (y : Int)) ∧ w2.cell? ⟨b', o' + j * 2 + 1, none⟩ = some (.int .i64 (z : Int)) := ⟨(hb.cell (p := ⟨wr.heap.size, 0, none⟩) HZ1.out.1).trans hS1.1, (hb.cell (p := ⟨wr.heap.size, 1, none⟩) HZ1.out.1).trans hS1.2.1, (hb.cell (p := ⟨b', o' + j * 2 + 1, none⟩) HZ1.out.2).trans hS1.2.2⟩
             have HB2 := Lib.hid (HB1.out.drew.trans (hb.mono HB1.out.size))
             have HO2 : Hid (OwnS w.heap.size w2 _ ((sumS l m).take j)) := Lib.hid (HO1.out.drew.below hb)
             have hb3 : Below w2.heap.size w2 (w2.alloc (.cells #[.int .i64 s0, .int .i64 (r : Nat)] 40)) := (Below.refl _ _).alloc (Nat.le_refl _) _
             have hz2 := hb.size
             have hS3 : (w2.alloc (.cells #[.int .i64 s0, .int .i64 (r : Nat)] 40)).cell? ⟨wr.heap.size, 0, none⟩ = some (.int .i64 s0) ∧ (w2.alloc (.cells #[.int .i64 s0, .int .i64 (r : Nat)] 40)).cell? ⟨wr.heap.size, 1, none⟩ = some (.int .i64 (y : Int)) ∧ (w2.alloc (.cells #[.int .i64 s0, .int .i64 (r : Nat)] 40)).cell? ⟨b', o' + j * 2 + 1, none⟩ = some (.int .i64 (z : Int)) := ⟨(hb3.cell (p := ⟨wr.heap.size, 0, none⟩) (Nat.lt_of_lt_of_le HZ1.out.1 hz2)).trans hS2.1, (hb3.cell (p := ⟨wr.heap.size, 1, none⟩) (Nat.lt_of_lt_of_le HZ1.out.1 hz2)).trans hS2.2.1, (hb3.cell (p := ⟨b', o' + j * 2 + 1, none⟩) (Nat.lt_of_lt_of_le HZ1.out.2 hz2)).trans hS2.2.2⟩
             have HZ2 := Lib.hid hz2
             clear hb hb3 hz2)
          | (refine step_appShr1 rfl (.tmp 29) (.tmp 41) (by rfl) w.heap.size _ _ (s0, (r : Nat)) w2 _ rfl HO2.out rfl rfl rfl HLk.out HB2.out.size ?_
             intro v5 w5 ho5 hb5 hk5
             have HO5 := Lib.hid ho5
             have HB5 := Lib.hid (HB2.out.trans hb5)
             have hS4 : w5.cell? ⟨wr.heap.size, 0, none⟩ = some (.int .i64 s0) ∧ w5.cell? ⟨wr.heap.size, 1, none⟩ = some (.int .i64 (y : Int)) ∧ w5.cell? ⟨b', o' + j * 2 + 1, none⟩ = some (.int .i64 (z : Int)) := by
               have hw := hk5 wr.heap.size (Nat.lt_of_lt_of_le HZ1.out.1 HZ2.out) (fun e => by have := HNB.out _ e; omega)
               refine ⟨(World.cell?_of_block (a := ⟨wr.heap.size, 0, none⟩) (w := w2) hw).trans hS2.1, (World.cell?_of_block (a := ⟨wr.heap.size, 1, none⟩) (w := w2) hw).trans hS2.2.1, (hb5.cell (p := ⟨b', o' + j * 2 + 1, none⟩) hbB').trans hS2.2.2⟩
             clear ho5 hb5 hk5))
      go_wp2_with fail
      go_roundw
      case rel => exact ⟨j + 1, by omega, by go_num, by rw [HTj2.out]; exact HO5.out, HB5.out⟩
      case measure => simp [intOf]; omega
    · obtain rfl : j = n := by omega
      rw [HTN.out] at HO
      go_wp2_with fail
      go_ret2
      exact ⟨_, rfl, HO.out, HB.out⟩

/-- What Sum returns. -/
def sumE (l m : List Sh) : Int := if okS l && (okS m && plEq l m) then 0 else 80
def sumL (l m : List Sh) : List Sh := if okS l && (okS m && plEq l m) then sumS l m else []
theorem sumE_ok {l m : List Sh} (h : (okS l && (okS m && plEq l m)) = true) : sumE l m = 0 ∧ sumL l m = sumS l m := by unfold sumE sumL; rw [h]; exact ⟨rfl, rfl⟩
theorem sumE_bad {l m : List Sh} (h : (okS l && (okS m && plEq l m)) = false) : sumE l m = 80 ∧ sumL l m = [] := by unfold sumE sumL; rw [h]; exact ⟨rfl, rfl⟩

set_option maxRecDepth 100000 in
theorem Sum_any (a : Option Addr) (cap : Nat) (l : List Sh) (a' : Option Addr) (cap' : Nat) (m : List Sh) (w : World) (hl : RdS w.heap.size w a l) (hm : RdS w.heap.size w a' m) :
    Calls Tryz.prog 16 #[.slice a l.length cap, .slice a' m.length cap'] w fun e w' => ∃ v, e = .returned (.tuple #[v, .int .i64 (sumE l m)]) ∧ OwnS w.heap.size w' v (sumL l m) ∧ Below w.heap.size w w' := by
  have K1 := Lib.hid (sCheck_any a cap l w hl)
  have K2 := Lib.hid (fun W (h : Below w.heap.size w W) => sCheck_any a' cap' m W (hm.call h))
  cases hok : okS l
  · obtain ⟨e1, e2⟩ := sumE_bad (l := l) (m := m) (by rw [hok]; rfl)
    rw [e1, e2]
    rw [hok] at K1
    clear K2 hok hl hm e1 e2
    generalize l.length = n at *
    generalize m.length = n' at *
    go_enter Tryz.func16, Tryz.ntmps16
    go_wp2_with (go_at_call 12; with_reducible refine K1.out.mono ?_; rintro e w2 ⟨rfl, hb⟩; have HB2 := Lib.hid hb; clear hb)
    go_ret2
    exact ⟨_, rfl, OwnS.nil _ _, HB2.out⟩
  · rw [hok] at K1
    cases hok' : okS m
    · obtain ⟨e1, e2⟩ := sumE_bad (l := l) (m := m) (by rw [hok, hok']; rfl)
      rw [e1, e2]
      rw [hok'] at K2
      clear hok hok' hl hm e1 e2
      generalize l.length = n at *
      generalize m.length = n' at *
      go_enter Tryz.func16, Tryz.ntmps16
      go_wp2_with (first
        | (go_at_call 12; with_reducible refine K1.out.mono ?_; rintro e w2 ⟨rfl, hb⟩; have HB2 := Lib.hid hb; clear hb)
        | (go_at_call 12; with_reducible refine (K2.out _ HB2.out).mono ?_; rintro e w3 ⟨rfl, hb⟩; have HB3 := Lib.hid (HB2.out.trans (hb.mono HB2.out.size)); clear hb))
      go_ret2
      exact ⟨_, rfl, OwnS.nil _ _, HB3.out⟩
    · cases hpl : plEq l m
      · obtain ⟨e1, e2⟩ := sumE_bad (l := l) (m := m) (by rw [hok, hok', hpl]; rfl)
        rw [e1, e2]
        obtain ⟨h1, h2, h3⟩ := okS_out hok
        obtain ⟨k1, k2, k3⟩ := okS_out hok'
        have K3 := Lib.hid (fun W (h : Below w.heap.size w W) => places_any a cap l a' cap' m W (hl.call h) (hm.call h) h2 k2)
        rw [hok'] at K2
        rw [hpl] at K3
        clear hok hok' hl hm e1 e2 h1 h2 h3 k1 k2 k3 hpl
        generalize l.length = n at *
        generalize m.length = n' at *
        go_enter Tryz.func16, Tryz.ntmps16
        go_wp2_with (first
          | (go_at_call 12; with_reducible refine K1.out.mono ?_; rintro e w2 ⟨rfl, hb⟩; have HB2 := Lib.hid hb; clear hb)
          | (go_at_call 12; with_reducible refine (K2.out _ HB2.out).mono ?_; rintro e w3 ⟨rfl, hb⟩; have HB3 := Lib.hid (HB2.out.trans (hb.mono HB2.out.size)); clear hb)
          | (go_at_call 26; with_reducible refine (K3.out _ HB3.out).mono ?_; rintro e w4 ⟨rfl, hb⟩; have HB4 := Lib.hid (HB3.out.trans (hb.mono HB3.out.size)); clear hb HB3 HB2))
        go_ret2
        exact ⟨_, rfl, OwnS.nil _ _, HB4.out⟩
      · obtain ⟨e1, e2⟩ := sumE_ok (l := l) (m := m) (by rw [hok, hok', hpl]; rfl)
        rw [e1, e2]
        exact Sum_ok a cap l a' cap' m w hl hm hok hok' hpl
end Go.Proofs.YtecojpkefobgpaaGreatDoor
