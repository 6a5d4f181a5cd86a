/-
  Package derive: Step.
-/
import Derived.Test.YthcbnanohjkllaaDoorDg
import Derived.Test.YthcbnanohjkllaaDoorPkG
import Derived.Laws.ResultCell
namespace Go.Proofs.YthcbnanohjkllaaDoor
open Go.RowKit Go.Shelf
set_option linter.unusedVariables false
set_option linter.unusedSimpArgs false
attribute [local go_sem] Oper.semAt_some

theorem results_cell_row_tmp {P : Program} {fn : Func} {p u : Tmp} {ty : TypeId} (h : fn.results = #[.cell p ty, .tmp u]) (tmps : Array Value) (w : World) (g : Nat) (t : TypeId) (cs : Array Value) (fr : Nat × Nat) (d : TypeDesc)
    (hp : tmps.getD p undef = .pointer (some ⟨g, 0, none⟩)) (hg : w.heap[g]? = some (.cells cs t fr))
    (hu : P.underlying ty = some d) (hd : (match d with | .struct _ | .array _ _ => true | _ => false) = true) (hi : (P.info? ty).map (·.size) = some cs.size) (v : Value) (hv : tmps.getD u undef = v) :
    (results fn tmps).run P w = .ok (.tuple #[.agg cs, v]) w := by
  have hp' : tmps[p]?.getD undef = .pointer (some ⟨g, 0, none⟩) := by simpa using hp
  have hv' : tmps[u]?.getD undef = v := by simpa using hv
  simp [results, h, hp', hv', asAddr, run_loadVar_row w g t ty cs fr d hg hu hd hi]

theorem after_any (K : List UInt8) (n : Nat) (w : World) :
    Calls Tryd.prog 35 #[.agg (bvA K), .int .i64 n] w fun e w' => e = .returned (.func (.func 55) #[] #[.pointer (some ⟨w.heap.size, 0, none⟩), .pointer (some ⟨w.heap.size + 1, 0, none⟩)]) ∧ w' = (w.alloc (.cells (bvA K) 24)).alloc (.cells #[.int .i64 n] 3) := by
  go_enter Tryd.func35, Tryd.ntmps35
  go_wp2_with fail
  go_ret
  exact ⟨rfl, rfl⟩

theorem last_snoc (K x : List UInt8) (pre : List (List UInt8)) : (pre ++ [x]).getLastD K = x := by simp
theorem last_stepL (K : List UInt8) : ∀ n, (stepL K n).getLastD K = stepS K n
  | 0 => rfl
  | n + 1 => by rw [stepL_succ, last_snoc]
/-- What the rounds of Step keep: the result is the last key that came. -/
structure StI (w : World) (b n : Nat) (K : List UInt8) (pre : List (List UInt8)) (W : World) : Prop where
  out : BB W (w.heap.size + 1) 24 (pre.getLastD K)
  af : AfC b (b + 1) n K W
  below : Below w.heap.size w W
  len : (pre.getLastD K).length = 32
theorem StI.keep {w W W' : World} {b n D : Nat} {K : List UInt8} {pre : List (List UInt8)} (h : StI w b n K pre W) (hb : Below D W W') (h1 : w.heap.size + 2 ≤ b) (h2 : b + 2 ≤ D) : StI w b n K pre W' := by
  have ht := h.af.tab.lt
  have hz := h.below.size
  refine ⟨h.out.below hb (by omega), ⟨h.af.key.below hb (by omega), (hb.block _ (by omega)).trans h.af.num, ?_⟩, h.below.trans (hb.mono (by omega)), h.len⟩
  exact h.af.tab.of fun k hk => hb.block k (Nat.lt_of_lt_of_le hk (by have := h2; have := h.af.key; omega))
def zeroKey : List UInt8 := List.replicate 32 0
set_option maxRecDepth 100000 in
set_option maxHeartbeats 1600000 in
theorem Step_neg (K : List UInt8) (hK : K.length = 32) (n : Int) (hn : n < 0) (w : World) :
    Calls Tryd.prog 17 #[.agg (bvA K), .int .i64 n] w fun e w' => e = .returned (.tuple #[.agg (bvA zeroKey), .int .i64 1]) ∧ Below w.heap.size w w' := by
  have f1 : decide (n < 0) = true := decide_eq_true hn
  have hB0 : BB ((w.alloc (.cells (bvA K) 24)).alloc (.cells (bvA (List.replicate 32 0)) 24)) (w.heap.size + 1) 24 (List.replicate 32 0) := heap_alloc2_new w _ _
  have HZ : Hid (zeroKey.length = 32) := Lib.hid (by decide)
  go_enter Tryd.func17, Tryd.ntmps17
  go_wp2_with (first
    | (refine wpList_built rfl 24 #[] rfl [] rfl (bvA zeroKey) (by kernel_rfl) ?_)
    | (refine wpList_storeA rfl 24 (.tmp 4) (.tmp 9) rfl (w.heap.size + 1) (bvA zeroKey) rfl rfl 24 _ hB0 (key_sz _ HZ.out) (key_old _ HZ.out) (bvA_one _) ?_))
  intro w2 h2 hg2
  have hB2 : Below w.heap.size w w2 := grown_below (((Below.refl _ _).alloc (Nat.le_refl _) _).alloc (by simp) _) hg2 (by omega) (by simp; omega)
  go_wp2_with fail
  refine bodyPost_ret (v := .tuple #[.agg (bvA zeroKey), .int .i64 1]) ?_ rfl ⟨rfl, hB2⟩
  exact results_cell_row_tmp rfl _ _ (w.heap.size + 1) 24 _ (0, 0) _ rfl h2 key_und rfl (key_sz _ HZ.out) _ rfl
set_option maxRecDepth 100000 in
set_option maxHeartbeats 1600000 in
theorem Step_big (K : List UInt8) (hK : K.length = 32) (n : Int) (hn : 65536 < n) (w : World) :
    Calls Tryd.prog 17 #[.agg (bvA K), .int .i64 n] w fun e w' => e = .returned (.tuple #[.agg (bvA zeroKey), .int .i64 2]) ∧ Below w.heap.size w w' := by
  have f1 : decide (n < 0) = false := decide_eq_false (by omega)
  have f2 : decide (65536 < n) = true := decide_eq_true hn
  have hB0 : BB ((w.alloc (.cells (bvA K) 24)).alloc (.cells (bvA (List.replicate 32 0)) 24)) (w.heap.size + 1) 24 (List.replicate 32 0) := heap_alloc2_new w _ _
  have HZ : Hid (zeroKey.length = 32) := Lib.hid (by decide)
  go_enter Tryd.func17, Tryd.ntmps17
  go_wp2_with (first
    | (refine wpList_built rfl 24 #[] rfl [] rfl (bvA zeroKey) (by kernel_rfl) ?_)
    | (refine wpList_storeA rfl 24 (.tmp 4) (.tmp 12) rfl (w.heap.size + 1) (bvA zeroKey) rfl rfl 24 _ hB0 (key_sz _ HZ.out) (key_old _ HZ.out) (bvA_one _) ?_))
  intro w2 h2 hg2
  have hB2 : Below w.heap.size w w2 := grown_below (((Below.refl _ _).alloc (Nat.le_refl _) _).alloc (by simp) _) hg2 (by omega) (by simp; omega)
  go_wp2_with fail
  refine bodyPost_ret (v := .tuple #[.agg (bvA zeroKey), .int .i64 2]) ?_ rfl ⟨rfl, hB2⟩
  exact results_cell_row_tmp rfl _ _ (w.heap.size + 1) 24 _ (0, 0) _ rfl h2 key_und rfl (key_sz _ HZ.out) _ rfl

set_option maxRecDepth 100000 in
set_option maxHeartbeats 2000000 in
theorem Step_ok (K : List UInt8) (hK : K.length = 32) (n : Nat) (hn : n ≤ 65536) (w : World) (hT : Tab w) :
    Calls Tryd.prog 17 #[.agg (bvA K), .int .i64 n] w fun e w' => e = .returned (.tuple #[.agg (bvA (stepS K n)), .int .i64 0]) ∧ Below w.heap.size w w' := by
  have f1 : decide ((n : Int) < 0) = false := decide_eq_false (by omega)
  have f2 : decide ((65536 : Int) < (n : Int)) = false := decide_eq_false (by omega)
  have hB0 : BB ((w.alloc (.cells (bvA K) 24)).alloc (.cells (bvA (List.replicate 32 0)) 24)) (w.heap.size + 1) 24 (List.replicate 32 0) := heap_alloc2_new w _ _
  have hA0 : BB ((w.alloc (.cells (bvA K) 24)).alloc (.cells (bvA (List.replicate 32 0)) 24)) w.heap.size 24 K := (BB.new w _ _).alloc _
  have HT := Lib.hid hT
  have HK := Lib.hid hK
  have HN := Lib.hid hn
  have HKS := Lib.hid (key_sz _ hK)
  have HKO := Lib.hid (key_old _ hK)
  clear hT hK hn
  refine (callsIn_wide (n := 5)).1 ?_
  refine callsIn_of_wp_marks Tryd.func17 rfl trivial ?_ rfl
  simp only [Tryd.ntmps17, List.size_toArray, List.length_cons, List.length_nil, Nat.reduceAdd, Nat.reduceSub, Array.replicate_succ, Array.replicate_zero, List.push_toArray, List.append_toArray, List.nil_append, List.cons_append]
  gi_wp2_with (first
    | (refine wpListIn_load_row rfl 24 (.tmp 2) rfl w.heap.size rfl _ (bvA K) (0, 0) _ hA0 Tryd.underlying24 rfl HKS.out ?_)
    | (refine wpListIn_storeA rfl 24 (.tmp 4) (.tmp 13) rfl (w.heap.size + 1) (bvA K) rfl rfl 24 _ hB0 HKS.out HKO.out (bvA_one _) ?_))
  intro w2 h2 hg2
  have HB2 := Lib.hid (grown_below (((Below.refl _ w).alloc (Nat.le_refl _) (.cells (bvA K) 24)).alloc (by simp) (.cells (bvA (List.replicate 32 0)) 24)) hg2 (by omega) (by simp; omega))
  have hA2 : BB w2 w.heap.size 24 K := hA0.grown hg2 (by omega)
  have HD2 : Hid (BB w2 (w.heap.size + 1) 24 K) := Lib.hid h2
  clear h2 hg2 hB0 hA0
  gi_wp2_with (first
    | (refine wpListIn_load_row rfl 24 (.tmp 2) rfl w.heap.size rfl _ (bvA K) (0, 0) _ hA2 Tryd.underlying24 rfl HKS.out ?_)
    | (refine ⟨trivial, ?_⟩; gi_at_call 35; refine (callsIn_wide.2 (after_any _ _ _)).mono ?_; rintro e w3 ⟨rfl, rfl⟩))
  obtain ⟨b, hb⟩ : ∃ b, w2.heap.size = b := ⟨_, rfl⟩
  have hbN : w.heap.size + 2 ≤ b := by have := HD2.out.lt; omega
  obtain ⟨w3, hw3⟩ : ∃ w3, w3 = (w2.alloc (.cells (bvA K) 24)).alloc (.cells #[.int .i64 n] 3) := ⟨_, rfl⟩
  have hz3 : w3.heap.size = b + 2 := by rw [hw3, ← hb]; simp
  have hb3 : Below w2.heap.size w2 w3 := by rw [hw3]; exact ((Below.refl _ _).alloc (Nat.le_refl _) _).alloc (by simp) _
  have HI0 : Hid (StI w b n K [] w3) := by
    refine Lib.hid ⟨HD2.out.below hb3 HD2.out.lt, ⟨?_, ?_, ?_⟩, HB2.out.trans (hb3.mono HB2.out.size), HK.out⟩
    · rw [hw3, ← hb]; exact (BB.new w2 _ _).alloc _
    · rw [hw3, ← hb]
      have c1 := Boxed.new (w2.alloc (.cells (bvA K) 24)) 3 (.int .i64 n)
      rw [World.size_alloc] at c1
      exact c1
    · exact HT.out.below (HB2.out.trans (hb3.mono HB2.out.size)) HT.out.lt
  rw [← hw3, hb]
  clear hA2 HB2 HD2 hb3 hw3 hb w2
  refine range_own rfl (by decide) (gf := 55) (lb := #[.pointer (some ⟨b, 0, none⟩), .pointer (some ⟨b + 1, 0, none⟩)]) rfl trivial (enters_of Tryd.func55 (by kernel_rfl) rfl)
    (after1_own b (b + 1) n K HK.out HN.out) (fun _ => rfl)
    (StI w b n K) (fun pre W W' h hb => h.keep hb hbN (by omega)) (fun _ _ h => h.af) HI0.out
    (fun x g a' W => a' = { tmps := #[.agg (bvA K), .int .i64 n, .pointer (some ⟨w.heap.size, 0, none⟩), undef, .pointer (some ⟨w.heap.size + 1, 0, none⟩), .int .i64 0, .pointer (some ⟨g, 0, none⟩), .int .i64 n, .bool false, undef, .int .i64 n, .bool false, undef, .agg (bvA K), .agg (bvA K), .int .i64 n, .func (.func 55) #[] #[.pointer (some ⟨b, 0, none⟩), .pointer (some ⟨b + 1, 0, none⟩)], .agg (bvA x), undef, undef], defers := [] } ∧ BB W g 24 x)
    (fun x g a' W W' h e => ⟨h.1, e.trans h.2⟩) ?assign ?body ?done
  case assign =>
    intro l x W K' hx hK'
    gi_wp2_with (refine wpListIn_storeA rfl 24 (.tmp 6) (.tmp 17) rfl W.heap.size (bvA x) rfl rfl 24 _ (BB.new W _ (List.replicate 32 0)) (key_sz _ hx) (key_old _ hx) (bvA_one _) ?_)
    intro W' h' hg'
    gi_wp2
    exact hK' _ _ (grown_below ((Below.refl _ _).alloc (Nat.le_refl _) _) hg' (Nat.le_refl _) (by simp)) (Array.getElem?_eq_some_iff.1 h').1 ⟨rfl, h'⟩
  case body =>
    rintro l pre x g a' W hI hx hDg hgW ⟨rfl, hg⟩
    gi_wp2_with (first
      | (refine wpListIn_load_row rfl 24 (.tmp 6) rfl g rfl _ (bvA x) (0, 0) _ hg Tryd.underlying24 rfl (key_sz _ hx) ?_)
      | (refine wpListIn_storeA rfl 24 (.tmp 4) (.tmp 18) rfl (w.heap.size + 1) (bvA x) rfl rfl 24 _ hI.out (key_sz _ hx) (by rw [bvA_size, bvA_size, hx, hI.len]) (bvA_one _) ?_))
    intro W' h' hg'
    gi_wp2
    have h3 := HT.out.lt
    refine ⟨fun k hk1 hk2 => hg'.block k hk2 (by intro e; injection e with e; omega), hg'.size, ⟨by rw [last_snoc]; exact h', ⟨hI.af.key.grown hg' (by omega), (hg'.block _ hI.af.num.lt (by intro e; injection e with e; omega)).trans hI.af.num, hI.af.tab.grown hg' (by omega)⟩, grown_below hI.below hg' (by omega) (by have := hI.below.size; omega), by rw [last_snoc]; exact hx⟩⟩
  case done =>
    intro D W hD hI hK
    have HO : Hid (BB W (w.heap.size + 1) 24 (stepS K n)) := Lib.hid (by rw [← last_stepL]; exact hI.out)
    have HL := Lib.hid (stepS_len HK.out n)
    have HBW := Lib.hid hI.below
    obtain ⟨X, hX⟩ : ∃ X, stepS K n = X := ⟨_, rfl⟩
    rw [hX] at HO HL
    have HX := Lib.hid hX
    clear hI hX
    gi_wp2_with (first
      | (refine wpListIn_load_row rfl 24 (.tmp 4) rfl (w.heap.size + 1) rfl _ (bvA X) (0, 0) _ HO.out Tryd.underlying24 rfl (key_sz _ HL.out) ?_)
      | (refine wpListIn_storeA rfl 24 (.tmp 4) (.tmp 19) rfl (w.heap.size + 1) (bvA X) rfl rfl 24 _ HO.out (key_sz _ HL.out) rfl (bvA_one _) ?_))
    intro W5 h5 hg5
    have hK5 : W5.heap[D]? = some (.deferred (some [])) := (hg5.block D (Array.getElem?_eq_some_iff.1 hK).1 (by intro e; injection e with e; omega)).trans hK
    have hB5 := grown_below HBW.out hg5 (by omega) (by have := HBW.out.size; omega)
    gi_wp2
    refine ⟨by simp, .inl ⟨_, _, rfl, run_takeDeferred hK5, ?_⟩⟩
    refine ⟨_, results_cell_row_tmp rfl _ _ (w.heap.size + 1) 24 _ (0, 0) _ rfl ((World.putObj_heap_other (by omega)).trans h5) key_und rfl (key_sz _ HL.out) (.int .i64 0) rfl, by rw [HX.out], hB5.trans (belowK_b (w := w) (Nat.le_refl _) W5 D _ _ (by omega) hK5 rfl rfl)⟩
end Go.Proofs.YthcbnanohjkllaaDoor
