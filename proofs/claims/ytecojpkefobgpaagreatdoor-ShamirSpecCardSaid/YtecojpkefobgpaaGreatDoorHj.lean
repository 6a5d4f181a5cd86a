/-
  Package shamir: coefficients, Split.
-/
import Derived.Test.YtecojpkefobgpaaGreatDoorHi
import Derived.Test.YtecojpkefobgpaaGreatDoorDi
namespace Go.Proofs.YtecojpkefobgpaaGreatDoor
open Go.RowKit
set_option linter.unusedVariables false
set_option linter.unusedSimpArgs false

def iC (x : Int) : Value := .int .i64 x
/-- The slice value v owns the ints l. -/
def OwnI (B : Nat) (w : World) (v : Value) (l : List Int) : Prop := w.ownsRow B 3 1 v l.length (l.map iC)
theorem OwnI.below {B : Nat} {w w' : World} {v : Value} {l : List Int} (h : OwnI B w v l) (hb : Below w.heap.size w w') : OwnI B w' v l := by
  refine ⟨h.1, ?_⟩
  rcases h.2 with h2 | ⟨g, cap, cur, hv, hg, hh, r⟩
  · exact .inl h2
  · exact .inr ⟨g, cap, cur, hv, hg, by rw [hb.block g (Array.getElem?_eq_some_iff.1 hh).1]; exact hh, r⟩
theorem OwnI.mono {B B' : Nat} {w : World} {v : Value} {l : List Int} (h : OwnI B w v l) (hB : B' ≤ B) : OwnI B' w v l := by
  refine ⟨h.1, ?_⟩
  rcases h.2 with h2 | ⟨g, cap, cur, hv, hg, r⟩
  · exact .inl h2
  · exact .inr ⟨g, cap, cur, hv, by omega, r⟩
theorem OwnI.alloc {B : Nat} {w : World} {v : Value} {l : List Int} (h : OwnI B w v l) (o : Obj) : OwnI B (w.alloc o) v l := World.ownsRow.alloc h o
theorem OwnI.base {B : Nat} {w : World} {v : Value} {l : List Int} (h : OwnI B w v l) : ∀ k, v.ownBlock = some k → B ≤ k := fun k hk => (World.ownsRow.lt h k hk).1
/-- The form of an owned slice of ints. -/
theorem OwnI.form {B : Nat} {w : World} {v : Value} {l : List Int} (h : OwnI B w v l) : ∃ a cap, v = .slice a l.length cap ∧ RdI w a l := by
  have hc := @World.ownsRow.cells w B _ 1 v l.length (l.map iC) h
  rcases h.2 with ⟨rfl, h0⟩ | ⟨g, cap, cur, rfl, hg, hh, h3, h4, r⟩
  · have : l = [] := List.eq_nil_of_length_eq_zero h0
    subst this
    exact ⟨none, 0, rfl, Nat.zero_le _, .inl rfl⟩
  · refine ⟨some ⟨g, 0, none⟩, cap, rfl, by omega, .inr ⟨_, rfl, fun j hj => ?_⟩⟩
    exact hc (g := g) rfl j _ (by rw [List.getElem?_map, List.getElem?_eq_getElem hj]; rfl)
theorem OwnI.built {B : Nat} {w : World} (x : Int) (hB : B ≤ w.heap.size) : OwnI B (w.alloc (.cells #[.int .i64 x] 3)) (.slice (some ⟨w.heap.size, 0, none⟩) 1 1) [x] :=
  ⟨rfl, .inr ⟨w.heap.size, 1, #[.int .i64 x], rfl, hB, heap_alloc_new w _, Nat.le_refl _, by unfold maxLen; omega, rfl, rfl⟩⟩
theorem intInfo2 : (Tryz.prog.info? 3).map (fun i => (i.zero, i.size, i.bytes)) = some (some (.int .i64 0), 1, 8) := by kernel_rfl
set_option maxRecDepth 100000 in
/-- append(own, x). -/
theorem wpList_appI1 {ops : Array Oper} {rest : List Oper} {o : Oper} {a : Act} {w : World} {Q : Exit → Act → World → Prop} (hgd : o.guard = none) (s x : Operand)
    (ho : o.op = .call { callee := .builtin .append, args := #[s, x], argTypes := #[42, 42] })
    (B : Nat) (v : Value) (l : List Int) (t : Int) (w0 : World) (g : Nat) (hs : a.eval s = v) (hown : OwnI B w0 v l) (hx : a.eval x = .slice (some ⟨g, 0, none⟩) 1 1) (hg : g = w0.heap.size)
    (hw : w = w0.alloc (.cells #[.int .i64 t] 3)) (hlen : l.length ≤ 1000000) (hB : B ≤ w0.heap.size)
    (h : ∀ v' w', OwnI B w' v' (l ++ [t]) → Below B w0 w' → wpList Tryz.prog ops Q rest (a.put o.dst v') w') : wpList Tryz.prog ops Q (o :: rest) a w := by
  subst hg
  subst hw
  obtain ⟨i0, hi, hz0, hz1, hz2⟩ := info_parts intInfo2
  have hown1 := hown.alloc (.cells #[.int .i64 t] 3)
  obtain ⟨v', w', hrun, h2, h3, _, h5⟩ := run_append_own_at (P := Tryz.prog) (w := w0.alloc (.cells #[.int .i64 t] 3)) B 42 o.type 3 i0 (.int .i64 0) 1 8 Tryz.underlying42 hi hz0 hz1 hz2 rfl (by decide) v l.length (l.map iC) hown1 ⟨w0.heap.size, 0, none⟩ 1 1 [iC t] rfl
    (fun j u hu => by
      match j, hu with
      | 0, hu =>
        injection hu with hu
        subst hu
        rw [addr_add]
        simp [iC])
    (fun u hu => by rw [List.mem_singleton.1 hu]; rfl) (by unfold maxLen; omega) (by omega) (le_alloc hB _)
  refine wpList_plain hgd fun _ hK => ?_
  unfold Oper.wp execOp
  simp only [ho, resolve, invoke, builtin, Sem.run_bind, Sem.run_pure, Result.andThen_ok, List.map_toArray, List.map_cons, List.map_nil, hs, hx, hrun]
  refine hK _ _ (h v' w' (by unfold OwnI; rw [List.length_append, List.map_append]; exact h2) ?_)
  exact ((Below.refl _ _).alloc hB _).trans ((Below.refl _ _).grown h3 (le_alloc hB _) fun k hk => (World.ownsRow.lt hown1 k hk).1)

def lblShare : ByteArray := ⟨#[115, 104, 97, 114, 101]⟩
/-- A coefficient, drawn from the seed. -/
def drawS (K : List UInt8) (i : Nat) : Nat := scS (expS K lblShare [(i : Int)]) lblShare
/-- The coefficients: the secret, and k that are drawn. -/
def coS (K : List UInt8) (secret : Int) (k : Nat) : List Int := secret :: (List.range k).map fun i => ((drawS K (i + 1) : Nat) : Int)
theorem coS_len (K : List UInt8) (secret : Int) (k : Nat) : (coS K secret k).length = k + 1 := by simp [coS]
theorem coS_succ (K : List UInt8) (secret : Int) (k : Nat) : coS K secret (k + 1) = coS K secret k ++ [((drawS K (k + 1) : Nat) : Int)] := by simp [coS, List.range_succ]
theorem coS_scal (K : List UInt8) (secret : Int) (hs : scal secret = true) (k : Nat) : ∀ c ∈ coS K secret k, scal c = true := by
  intro c hc
  rcases List.mem_cons.1 hc with rfl | hc
  · exact hs
  · obtain ⟨i, _, rfl⟩ := List.mem_map.1 hc
    exact scal_nat (scS_bd _ _).2
/-- Drawing one. -/
theorem draw_any (K : List UInt8) (hK : K.length = 32) (i : Nat) (hi : i ≤ 1000) (W : World) (hT : Tab W) (a : Option Addr) (cap : Nat) (hr : RdM W.heap.size W a [(i : Int)]) :
    Calls Tryz.prog 32 #[.agg (bvA K), .string lblShare, .slice a 1 cap] W fun e w' => e = .returned (.agg (bvA (expS K lblShare [(i : Int)]))) ∧ Below W.heap.size W w' :=
  Expand_any K hK lblShare a cap [(i : Int)] W hT (by decide) hr (by simp) (fun n hn => by rw [List.mem_singleton.1 hn]; exact ⟨by omega, by omega⟩)
theorem RdM.one {w : World} (x : Int) : RdM (w.alloc (.cells #[.int .i64 x] 3)).heap.size (w.alloc (.cells #[.int .i64 x] 3)) (some ⟨w.heap.size, 0, none⟩) [x] :=
  ⟨by unfold maxLen; simp, .inr ⟨w.heap.size, 0, rfl, by simp, fun j hj => by
    obtain rfl : j = 0 := by simpa using hj
    simp⟩⟩

set_option maxRecDepth 100000 in
set_option maxHeartbeats 4000000 in
theorem coefficients_any (secret : Int) (need : Nat) (K : List UInt8) (hK : K.length = 32) (h1 : 1 ≤ need) (h64 : need ≤ 64) (w : World) (hT : Tab w) :
    Calls Tryz.prog 19 #[.int .i64 secret, .int .i64 need, .agg (bvA K)] w fun e w' => ∃ v, e = .returned v ∧ OwnI w.heap.size w' v (coS K secret (need - 1)) ∧ Below w.heap.size w w' := by
  have HT := Lib.hid hT
  have HLK := Lib.hid hK
  have HA1 : Hid (BB (w.alloc (.cells (bvA K) 24)) w.heap.size 24 K) := Lib.hid (BB.new w _ _)
  have HB1 : Hid (Below w.heap.size w (w.alloc (.cells (bvA K) 24))) := Lib.hid ((Below.refl _ _).alloc (Nat.le_refl _) _)
  have HS : Hid (∀ k, 1 ≤ k → coS K secret k = coS K secret (k - 1) ++ [((drawS K k : Nat) : Int)]) := Lib.hid (fun k hk => by
    obtain ⟨j, rfl⟩ : ∃ j, k = j + 1 := ⟨k - 1, by omega⟩
    exact coS_succ K secret j)
  have HLN : Hid (∀ k, k ≤ 64 → (coS K secret k).length ≤ 1000000) := Lib.hid (fun k hk => by rw [coS_len]; omega)
  have HD1 := Lib.hid (fun i hi W hT a cap hr => draw_any K HLK.out i hi W hT a cap hr)
  have HD2 := Lib.hid (fun i W hT => DScalar_any (expS K lblShare [(i : Int)]) (expS_len _ _ _) lblShare W hT (by decide))
  have HC0 : Hid (OwnI (w.heap.size + 1) ((w.alloc (.cells (bvA K) 24)).alloc (.cells #[.int .i64 secret] 3)) (.slice (some ⟨w.heap.size + 1, 0, none⟩) 1 1) (coS K secret (1 - 1))) := Lib.hid (by
    have h := OwnI.built (B := w.heap.size + 1) (w := w.alloc (.cells (bvA K) 24)) secret (by simp)
    rw [World.size_alloc] at h
    exact h)
  have HB0 : Hid (Below (w.heap.size + 1) (w.alloc (.cells (bvA K) 24)) ((w.alloc (.cells (bvA K) 24)).alloc (.cells #[.int .i64 secret] 3))) := Lib.hid ((Below.refl _ _).alloc (by simp) _)
  clear hT
  go_enter Tryz.func19, Tryz.ntmps19
  go_wp2_with fail
  go_loopw [7, 8] (fun v i wr => ∃ k : Nat, 1 ≤ k ∧ k ≤ need ∧ i = .int .i64 k ∧ OwnI (w.heap.size + 1) wr v (coS K secret (k - 1)) ∧ Below (w.heap.size + 1) (w.alloc (.cells (bvA K) 24)) wr) (fun _ i _ => need - (intOf i).toNat)
  case atStart => exact ⟨1, Nat.le_refl _, h1, rfl, HC0.out, HB0.out⟩
  case round =>
    clear HC0 HB0
    obtain ⟨k, hk1, hk, rfl, ho, hb⟩ := hrel
    have HB := Lib.hid hb
    have HO := Lib.hid ho
    have HA := Lib.hid (HA1.out.below hb (Nat.lt_succ_self _))
    have hTr : Tab wr := (HT.out.below HB1.out HT.out.lt).below hb (by have := HT.out.lt; omega)
    have hZr : w.heap.size + 1 ≤ wr.heap.size := Nat.le_trans (by simp) hb.size
    by_cases hlt : k < need
    · have HLk := Lib.hid (HLN.out (k - 1) (by omega))
      have HSk := Lib.hid (HS.out k hk1)
      have HZ := Lib.hid hZr
      have hb1 : Below wr.heap.size wr (wr.alloc (.cells #[.int .i64 (k : Int)] 3)) := (Below.refl _ _).alloc (Nat.le_refl _) _
      have HT1 := Lib.hid (hTr.below hb1 hTr.lt)
      have HE1 : Hid (Below (w.heap.size + 1) (w.alloc (.cells (bvA K) 24)) (wr.alloc (.cells #[.int .i64 (k : Int)] 3))) := Lib.hid (hb.trans (hb1.mono hZr))
      have HO1 := Lib.hid (ho.below hb1)
      have K1 := Lib.hid (HD1.out k (by omega) _ HT1.out _ 1 (RdM.one (w := wr) (k : Int)))
      have K2 := Lib.hid (HD2.out k)
      have hdk : scS (expS K lblShare [(k : Int)]) lblShare = drawS K k := rfl
      rw [hdk] at K2
      generalize drawS K k = dk at *
      obtain ⟨X, hX⟩ : ∃ X, expS K lblShare [(k : Int)] = X := ⟨_, rfl⟩
      rw [hX] at K1 K2
      unfold lblShare at K1 K2
      clear hX hdk ho hb hTr hb1 HD1 HD2 HS HLN HO HB
      go_wp2_with (first
        | (refine wpList_load_row rfl 24 (.tmp 5) rfl w.heap.size rfl _ (bvA K) (0, 0) _ HA.out Tryz.underlying24 rfl (key_sz _ HLK.out) ?_)
        | (go_at_call 32; with_reducible refine K1.out.mono ?_; rintro e w2 ⟨rfl, hb2⟩; have HE2 := Lib.hid (HE1.out.trans (hb2.mono (Nat.le_trans HZ.out (by simp)))); have HO2 := Lib.hid (HO1.out.below hb2); have HT2 := Lib.hid (HT1.out.below hb2 HT1.out.lt); clear hb2)
        | (go_at_call 31; with_reducible refine (K2.out _ HT2.out).mono ?_; rintro e w3 ⟨rfl, hb3⟩; have HE3 := Lib.hid (HE2.out.trans (hb3.mono (Nat.le_trans (by simp) HE2.out.size))); have HO3 := Lib.hid (HO2.out.below hb3); clear hb3)
        | (refine wpList_appI1 rfl (.tmp 16) (.tmp 22) rfl (w.heap.size + 1) _ _ (dk : Nat) w3 _ rfl HO3.out rfl rfl rfl HLk.out (Nat.le_trans (by simp) HE3.out.size) ?_))
      intro v5 w5 ho5 hb5
      have HO5 : Hid (OwnI (w.heap.size + 1) w5 v5 (coS K secret k)) := Lib.hid (by rw [HSk.out]; exact ho5)
      have HB5 := Lib.hid (HE3.out.trans hb5)
      clear ho5 hb5
      go_wp2_with fail
      go_roundw
      case rel => exact ⟨k + 1, by omega, by omega, by go_num, HO5.out, HB5.out⟩
      case measure => simp [intOf]; omega
    · obtain rfl : k = need := by omega
      go_wp2_with fail
      go_ret
      exact ⟨_, rfl, HO.out.mono (Nat.le_succ _), HB1.out.trans (HB.out.mono (Nat.le_succ _))⟩

theorem RdI.later {w w' : World} {a : Option Addr} {l : List Int} (h : RdI w a l) (hb : Below w.heap.size w w') : RdI w' a l :=
  ⟨h.1, h.2.imp id fun ⟨x, ha, hc⟩ => ⟨x, ha, fun j hj => by
    have hlt : (x.add j).block < w.heap.size := World.block_lt_of_cell? w _ (hc j hj)
    exact (hb.cell hlt).trans (hc j hj)⟩⟩
/-- The values of a polynomial at 1, 2, .., n, as shares. -/
def splTo (c : List Int) (n : Nat) : List Sh := (List.range n).map fun i => (((i + 1 : Nat) : Int), ((evQ (i + 1) c : Nat) : Int))
theorem splTo_len (c : List Int) (n : Nat) : (splTo c n).length = n := by simp [splTo]
theorem splTo_succ (c : List Int) (n : Nat) : splTo c (n + 1) = splTo c n ++ [(((n + 1 : Nat) : Int), ((evQ (n + 1) c : Nat) : Int))] := by simp [splTo, List.range_succ]
theorem splTo_get (c : List Int) (n j : Nat) (h : j < (splTo c n).length) : (splTo c n)[j] = (((j + 1 : Nat) : Int), ((evQ (j + 1) c : Nat) : Int)) := by simp [splTo]
/-- What Split returns. -/
def splE (secret need many : Int) : Int := if scal secret then (if decide (1 ≤ need) && (decide (need ≤ many) && decide (many ≤ 64)) then 0 else 80) else 1
def splL (K : List UInt8) (secret need many : Int) : List Sh := if splE secret need many = 0 then splTo (coS K secret (need.toNat - 1)) many.toNat else []
theorem splE_sec {secret need many : Int} (h : scal secret = false) : splE secret need many = 1 := by unfold splE; rw [h]; rfl
theorem splE_bad {secret need many : Int} (h : scal secret = true) (h2 : need < 1 ∨ many < need ∨ 64 < many) : splE secret need many = 80 := by
  have e : (decide (1 ≤ need) && (decide (need ≤ many) && decide (many ≤ 64))) = false := by
    rcases h2 with h2 | h2 | h2
    · rw [decide_eq_false (by omega)]; rfl
    · rw [decide_eq_false (p := need ≤ many) (by omega)]; simp
    · rw [decide_eq_false (p := many ≤ 64) (by omega)]; simp
  unfold splE; rw [h, e]; rfl
theorem splE_ok {secret need many : Int} (h : scal secret = true) (h1 : 1 ≤ need) (h2 : need ≤ many) (h3 : many ≤ 64) : splE secret need many = 0 := by
  unfold splE; rw [h, decide_eq_true h1, decide_eq_true h2, decide_eq_true h3]; rfl
theorem splL_no {K : List UInt8} {secret need many : Int} (h : splE secret need many ≠ 0) : splL K secret need many = [] := by unfold splL; rw [if_neg h]
theorem splL_ok {K : List UInt8} {secret need many : Int} (h : splE secret need many = 0) : splL K secret need many = splTo (coS K secret (need.toNat - 1)) many.toNat := by unfold splL; rw [if_pos h]
theorem splE_zero {secret need many : Int} (h : splE secret need many = 0) : scal secret = true ∧ 1 ≤ need ∧ need ≤ many ∧ many ≤ 64 := by
  cases hs : scal secret
  · rw [splE_sec hs] at h; cases h
  · refine ⟨rfl, ?_⟩
    by_cases h1 : need < 1 ∨ many < need ∨ 64 < many
    · rw [splE_bad hs h1] at h; cases h
    · omega

set_option maxRecDepth 100000 in
set_option maxHeartbeats 4000000 in
theorem Split_ok (secret : Int) (need many : Nat) (K : List UInt8) (hK : K.length = 32) (hs : scal secret = true) (h1 : 1 ≤ need) (h2 : need ≤ many) (h64 : many ≤ 64) (w : World) (hT : Tab w) :
    Calls Tryz.prog 7 #[.int .i64 secret, .int .i64 need, .int .i64 many, .agg (bvA K)] w fun e w' => ∃ v, e = .returned (.tuple #[v, .int .i64 0]) ∧ OwnS w.heap.size w' v (splTo (coS K secret (need - 1)) many) ∧ Below w.heap.size w w' := by
  have HT := Lib.hid hT
  have HLK := Lib.hid hK
  have f1 : decide ((need : Int) < 1) = false := decide_eq_false (by omega)
  have f2 : decide ((many : Int) < (need : Int)) = false := decide_eq_false (by omega)
  have f3 : decide (64 < (many : Int)) = false := decide_eq_false (by omega)
  have K1 := Lib.hid (fun w => fCheck secret w)
  rw [hs] at K1
  have K2 := Lib.hid (fun w hT => coefficients_any secret need K hK h1 (by omega) w hT)
  have HCS := Lib.hid (coS_scal K secret hs (need - 1))
  obtain ⟨c, hc⟩ : ∃ c, coS K secret (need - 1) = c := ⟨_, rfl⟩
  rw [hc] at K2 HCS ⊢
  have HA1 : Hid (BB (w.alloc (.cells (bvA K) 24)) w.heap.size 24 K) := Lib.hid (BB.new w _ _)
  have HB1 : Hid (Below w.heap.size w (w.alloc (.cells (bvA K) 24))) := Lib.hid ((Below.refl _ _).alloc (Nat.le_refl _) _)
  have HS : Hid (∀ k, 1 ≤ k → splTo c k = splTo c (k - 1) ++ [((k : Int), ((evQ k c : Nat) : Int))]) := Lib.hid (fun k hk => by
    obtain ⟨j, rfl⟩ : ∃ j, k = j + 1 := ⟨k - 1, by omega⟩
    exact splTo_succ c j)
  have HLN : Hid (∀ k, k ≤ 65 → (splTo c k).length ≤ 1000000) := Lib.hid (fun k hk => by rw [splTo_len]; omega)
  clear hT hc hs hK
  go_enter Tryz.func7, Tryz.ntmps7
  go_wp2_with (first
    | (go_at_call 18; with_reducible refine (K1.out _).mono ?_; rintro e w2 ⟨rfl, hb⟩; have HB2 := Lib.hid (HB1.out.trans (hb.mono HB1.out.size)); have HA2 := Lib.hid (HA1.out.below hb HA1.out.lt); clear hb)
    | (refine wpList_load_row rfl 24 (.tmp 7) rfl w.heap.size rfl _ (bvA K) (0, 0) _ HA2.out Tryz.underlying24 rfl (key_sz _ HLK.out) ?_)
    | (go_at_call 19; with_reducible refine (K2.out _ (HT.out.below HB2.out HT.out.lt)).mono ?_; rintro e w3 ⟨v3, rfl, ho, hb⟩; refine Hid.out ?_))
  refine Lib.hid ?_
  obtain ⟨ac, capc, rfl, hrc⟩ := ho.form
  have HRC := Lib.hid hrc
  have HB3 := Lib.hid (HB2.out.trans (hb.mono HB2.out.size))
  clear ho hb hrc K1 K2 HA2 HB2 HA1 HB1
  obtain ⟨n, hn⟩ : ∃ n, c.length = n := ⟨_, rfl⟩
  have K3 : Hid (∀ W, Below w3.heap.size w3 W → ∀ x : Nat, x ≤ 64 → Calls Tryz.prog 20 #[.slice ac n capc, .int .i64 x] W fun e w' => e = .returned (.int .i64 (evQ x c : Nat)) ∧ Below W.heap.size W w') :=
    Lib.hid (fun W h x hx => by rw [← hn]; exact svalue_any ac capc c x (by omega) HCS.out W (HRC.out.later h))
  rw [hn]
  clear hn
  have HO0 : Hid (OwnS w3.heap.size w3 (.slice none 0 0) (splTo c (1 - 1))) := Lib.hid (OwnS.nil _ _)
  have HB0 := Lib.hid (Below.refl w3.heap.size w3)
  go_wp2_with fail
  go_loopw [8, 11] (fun v i wr => ∃ k : Nat, 1 ≤ k ∧ k ≤ many + 1 ∧ i = .int .i64 k ∧ OwnS w3.heap.size wr v (splTo c (k - 1)) ∧ Below w3.heap.size w3 wr) (fun _ i _ => (many + 1) - (intOf i).toNat)
  case atStart => exact ⟨1, Nat.le_refl _, by omega, rfl, HO0.out, HB0.out⟩
  case round =>
    clear HO0 HB0
    obtain ⟨k, hk1, hk, rfl, ho, hb⟩ := hrel
    have HB := Lib.hid hb
    have HO := Lib.hid ho
    by_cases hlt : k ≤ many
    · have g1 : decide ((k : Int) ≤ (many : Int)) = true := decide_eq_true (by omega)
      have HLk := Lib.hid (HLN.out (k - 1) (by omega))
      have HSk := Lib.hid (HS.out k hk1)
      have K4 := Lib.hid (K3.out wr hb k (by omega))
      generalize evQ k c = y at *
      clear ho hb K3 HLN HS
      go_wp2_with (first
        | (go_at_call 20; with_reducible refine K4.out.mono ?_; rintro e w5 ⟨rfl, hb5⟩; have HB5 := Lib.hid (HB.out.trans (hb5.mono HB.out.size)); have HO5 := Lib.hid (HO.out.below hb5); clear hb5)
        | (refine wpList_appShr1 rfl (.tmp 37) (.tmp 43) rfl w3.heap.size _ _ ((k : Int), (y : Nat)) w5 _ rfl HO5.out rfl rfl rfl HLk.out HB5.out.size ?_))
      intro v6 w6 ho6 hb6
      have HO6 : Hid (OwnS w3.heap.size w6 v6 (splTo c k)) := Lib.hid (by rw [HSk.out]; exact ho6)
      have HB6 := Lib.hid (HB5.out.trans hb6)
      clear ho6 hb6
      go_wp2_with fail
      go_roundw
      case rel => exact ⟨k + 1, by omega, by omega, by go_num, HO6.out, HB6.out⟩
      case measure => simp [intOf]; omega
    · obtain rfl : k = many + 1 := by omega
      have g1 : decide (((many + 1 : Nat) : Int) ≤ (many : Int)) = false := decide_eq_false (by omega)
      have HO2 : Hid (OwnS w3.heap.size wr _ (splTo c many)) := HO
      go_wp2_with fail
      go_ret2
      exact ⟨_, rfl, HO2.out.mono HB3.out.size, HB3.out.trans (HB.out.mono HB3.out.size)⟩

set_option maxRecDepth 100000 in
set_option maxHeartbeats 2000000 in
theorem Split_any (secret need many : Int) (K : List UInt8) (hK : K.length = 32) (w : World) (hT : Tab w) :
    Calls Tryz.prog 7 #[.int .i64 secret, .int .i64 need, .int .i64 many, .agg (bvA K)] w fun e w' => ∃ v, e = .returned (.tuple #[v, .int .i64 (splE secret need many)]) ∧ OwnS w.heap.size w' v (splL K secret need many) ∧ Below w.heap.size w w' := by
  have HB1 : Hid (Below w.heap.size w (w.alloc (.cells (bvA K) 24))) := Lib.hid ((Below.refl _ _).alloc (Nat.le_refl _) _)
  have K1 := Lib.hid (fun w => fCheck secret w)
  cases hs : scal secret
  · have e1 := splE_sec (need := need) (many := many) hs
    rw [splL_no (by rw [e1]; decide), e1]
    rw [hs] at K1
    clear hT e1
    go_enter Tryz.func7, Tryz.ntmps7
    go_wp2_with (go_at_call 18; with_reducible refine (K1.out _).mono ?_; rintro e w2 ⟨rfl, hb⟩; have HB2 := Lib.hid (HB1.out.trans (hb.mono HB1.out.size)); clear hb)
    go_ret2
    exact ⟨_, rfl, OwnS.nil _ _, HB2.out⟩
  · rw [hs] at K1
    by_cases hb : need < 1 ∨ many < need ∨ 64 < many
    · have e1 := splE_bad hs hb
      rw [splL_no (by rw [e1]; decide), e1]
      clear hT e1
      by_cases b1 : need < 1
      · have f1 : decide (need < 1) = true := decide_eq_true b1
        go_enter Tryz.func7, Tryz.ntmps7
        go_wp2_with (go_at_call 18; with_reducible refine (K1.out _).mono ?_; rintro e w2 ⟨rfl, hb⟩; have HB2 := Lib.hid (HB1.out.trans (hb.mono HB1.out.size)); clear hb)
        go_ret2
        exact ⟨_, rfl, OwnS.nil _ _, HB2.out⟩
      · have f1 : decide (need < 1) = false := decide_eq_false b1
        by_cases b2 : many < need
        · have f2 : decide (many < need) = true := decide_eq_true b2
          go_enter Tryz.func7, Tryz.ntmps7
          go_wp2_with (go_at_call 18; with_reducible refine (K1.out _).mono ?_; rintro e w2 ⟨rfl, hb⟩; have HB2 := Lib.hid (HB1.out.trans (hb.mono HB1.out.size)); clear hb)
          go_ret2
          exact ⟨_, rfl, OwnS.nil _ _, HB2.out⟩
        · have f2 : decide (many < need) = false := decide_eq_false b2
          have f3 : decide (64 < many) = true := decide_eq_true (by omega)
          go_enter Tryz.func7, Tryz.ntmps7
          go_wp2_with (go_at_call 18; with_reducible refine (K1.out _).mono ?_; rintro e w2 ⟨rfl, hb⟩; have HB2 := Lib.hid (HB1.out.trans (hb.mono HB1.out.size)); clear hb)
          go_ret2
          exact ⟨_, rfl, OwnS.nil _ _, HB2.out⟩
    · obtain ⟨N, rfl⟩ : ∃ N : Nat, need = N := ⟨need.toNat, by omega⟩
      obtain ⟨M, rfl⟩ : ∃ M : Nat, many = M := ⟨many.toNat, by omega⟩
      have e1 := splE_ok (secret := secret) (need := (N : Int)) (many := (M : Int)) hs (by omega) (by omega) (by omega)
      rw [splL_ok e1, e1]
      simp only [Int.toNat_natCast]
      exact Split_ok secret N M K hK hs (by omega) (by omega) (by omega) w hT
end Go.Proofs.YtecojpkefobgpaaGreatDoor
